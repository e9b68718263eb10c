/- Programs as trees, and how they lie in memory. No condition. The document's text of a program, and what is one, as functions of trees. No condition. The landed isName: it tells whether a text is just one name. Condition: the library's variable MaxLen holds some number. -/
import Derived.Test.YtdefgghhkknnpaaGreatDoorE04
import Derived.Lib.ItoaNum
set_option linter.unusedVariables false
set_option linter.unusedSimpArgs false
set_option maxRecDepth 100000
set_option maxHeartbeats 40000000
namespace Go.Proofs.YtdefgghhkknnpaaGreatDoor
namespace tr
open ChangeShapes WideShapes ChangeAt RowKit k rr tk
abbrev Str:=List UInt8
def sv (s:Str):Value:=.string ⟨s.toArray⟩
inductive Ex
  | mk (op n:Int) (name field:Str) (sub:List Ex) (line:Int)
inductive St
  | mk (op:Int) (name:Str) (dst val:Ex) (conds:List Ex) (labels:List (List Int)) (fields:List Str) (blocks:List (List St)) (line:Int)
structure Va where
  name:Str
  type:Int
  sect:Int
  array:Bool
  lo:Int
  hi:Int
  init:Int
  line:Int
structure Pg where
  name:Str
  vars:List Va
  body:List St
def zeroE:Ex:=.mk 0 0 [] [] [] 0
def zeroG:Pg:=⟨[],[],[]⟩
structure Sl where
  A:Option Addr
  l:Nat
  c:Nat
def Sl.v (s:Sl):Value:=.slice s.A s.l s.c
def slC (s:Sl):List Value:=[s.v]
def iC (n:Int):List Value:=[.int .i64 n]
def tC1 (s:Str):List Value:=[sv s]
structure EH where
  op:Int
  n:Int
  name:Str
  field:Str
  sub:Sl
  line:Int
def eC (h:EH):List Value:=[.int .i64 h.op,.int .i64 h.n,sv h.name,sv h.field,h.sub.v,.int .i64 h.line]
structure SH where
  op:Int
  name:Str
  dst:EH
  val:EH
  conds:Sl
  labels:Sl
  fields:Sl
  blocks:Sl
  line:Int
def sC (h:SH):List Value:=[.int .i64 h.op,sv h.name,.int .i64 h.dst.op,.int .i64 h.dst.n,sv h.dst.name,sv h.dst.field,h.dst.sub.v,.int .i64 h.dst.line,.int .i64 h.val.op,.int .i64 h.val.n,sv h.val.name,sv h.val.field,h.val.sub.v,.int .i64 h.val.line,h.conds.v,h.labels.v,h.fields.v,h.blocks.v,.int .i64 h.line]
def vC (v:Va):List Value:=[sv v.name,.int .i64 v.type,.int .i64 v.sect,.bool v.array,.int .i64 v.lo,.int .i64 v.hi,.int .i64 v.init,.int .i64 v.line]
structure GH where
  name:Str
  vars:Sl
  body:Sl
def gC (h:GH):List Value:=[sv h.name,h.vars.v,h.body.v]
theorem eC_len (h:EH):(eC h).length=6:=rfl
theorem sC_len (h:SH):(sC h).length=19:=rfl
theorem vC_len (v:Va):(vC v).length=8:=rfl
theorem slC_len (s:Sl):(slC s).length=1:=rfl
theorem iC_len (s:Int):(iC s).length=1:=rfl
theorem tC1_len (s:Str):(tC1 s).length=1:=rfl
theorem eC_one (h:EH):∀ u∈eC h,u.oneCell'=true:=by
  intro u hu;simp only [eC,List.mem_cons,List.not_mem_nil,or_false] at hu;rcases hu with rfl|rfl|rfl|rfl|rfl|rfl<;>rfl
theorem sC_one (h:SH):∀ u∈sC h,u.oneCell'=true:=by
  intro u hu;simp only [sC,List.mem_cons,List.not_mem_nil,or_false] at hu;rcases hu with rfl|rfl|rfl|rfl|rfl|rfl|rfl|rfl|rfl|rfl|rfl|rfl|rfl|rfl|rfl|rfl|rfl|rfl|rfl<;>rfl
theorem vC_one (h:Va):∀ u∈vC h,u.oneCell'=true:=by
  intro u hu;simp only [vC,List.mem_cons,List.not_mem_nil,or_false] at hu;rcases hu with rfl|rfl|rfl|rfl|rfl|rfl|rfl|rfl<;>rfl
theorem slC_one (s:Sl):∀ u∈slC s,u.oneCell'=true:=by
  intro u hu;simp only [slC,List.mem_cons,List.not_mem_nil,or_false] at hu;subst hu;rfl
theorem iC_one (s:Int):∀ u∈iC s,u.oneCell'=true:=by
  intro u hu;simp only [iC,List.mem_cons,List.not_mem_nil,or_false] at hu;subst hu;rfl
theorem tC1_one (s:Str):∀ u∈tC1 s,u.oneCell'=true:=by
  intro u hu;simp only [tC1,List.mem_cons,List.not_mem_nil,or_false] at hu;subst hu;rfl
def RS {α:Type} (enc:α→List Value) (z:Nat) (w:World) (B:Nat) (s:Sl) (L:List α):Prop:=Rd enc z w B s.A s.l s.c L
mutual
def ExAt (w:World) (B:Nat):Ex→EH→Prop
  | .mk op n nm fd sub ln,h=>h.op=op∧h.n=n∧h.name=nm∧h.field=fd∧h.line=ln∧∃ H,RS eC 6 w B h.sub H∧ExsAt w B sub H
def ExsAt (w:World) (B:Nat):List Ex→List EH→Prop
  | [],H=>H=[]
  | x::L,H=>∃ h H',H=h::H'∧ExAt w B x h∧ExsAt w B L H'
end
def ExL (w:World) (B:Nat) (s:Sl) (L:List Ex):Prop:=∃ H,RS eC 6 w B s H∧ExsAt w B L H
def LabsAt (w:World) (B:Nat):List (List Int)→List Sl→Prop
  | [],H=>H=[]
  | x::L,H=>∃ h H',H=h::H'∧RS iC 1 w B h x∧LabsAt w B L H'
mutual
def StAt (w:World) (B:Nat):St→SH→Prop
  | .mk op nm dst val conds labels fields blocks ln,h=>h.op=op∧h.name=nm∧h.line=ln∧ExAt w B dst h.dst∧ExAt w B val h.val∧ExL w B h.conds conds ∧
    (∃ H,RS slC 1 w B h.labels H∧LabsAt w B labels H)∧RS tC1 1 w B h.fields fields∧∃ H,RS slC 1 w B h.blocks H∧BlksAt w B blocks H
def StsAt (w:World) (B:Nat):List St→List SH→Prop
  | [],H=>H=[]
  | x::L,H=>∃ h H',H=h::H'∧StAt w B x h∧StsAt w B L H'
def BlksAt (w:World) (B:Nat):List (List St)→List Sl→Prop
  | [],H=>H=[]
  | x::L,H=>∃ h H',H=h::H'∧(∃ K,RS sC 19 w B h K∧StsAt w B x K)∧BlksAt w B L H'
end
def StL (w:World) (B:Nat) (s:Sl) (L:List St):Prop:=∃ K,RS sC 19 w B s K∧StsAt w B L K
def PgAt (w:World) (B:Nat) (p:Pg) (h:GH):Prop:=h.name=p.name∧RS vC 8 w B h.vars p.vars∧StL w B h.body p.body
section
variable {w w':World} {B B':Nat}
theorem RS.below {α:Type} {enc:α→List Value} {z:Nat} {s:Sl} {L:List α} (h:RS enc z w B s L) (hb:Below B w w') (hB:B≤B'):RS enc z w' B' s L:=(Rd.below h hb).more hB
mutual
theorem ExAt.below (hb:Below B w w') (hB:B≤B'):∀ {x:Ex} {h:EH},ExAt w B x h→ExAt w' B' x h
  | .mk op n nm fd sub ln,h,⟨h1,h2,h3,h4,h5,H,h6,h7⟩=>⟨h1,h2,h3,h4,h5,H,h6.below hb hB,ExsAt.below hb hB h7⟩
theorem ExsAt.below (hb:Below B w w') (hB:B≤B'):∀ {L:List Ex} {H:List EH},ExsAt w B L H→ExsAt w' B' L H
  | [],_,h=>h
  | x::L,_,⟨h,H',e,h1,h2⟩=>⟨h,H',e,ExAt.below hb hB h1,ExsAt.below hb hB h2⟩
end
theorem ExL.below {s:Sl} {L:List Ex} (h:ExL w B s L) (hb:Below B w w') (hB:B≤B'):ExL w' B' s L:=by
  obtain ⟨H,h1,h2⟩:=h;exact ⟨H,h1.below hb hB,ExsAt.below hb hB h2⟩
theorem LabsAt.below (hb:Below B w w') (hB:B≤B'):∀ {L:List (List Int)} {H:List Sl},LabsAt w B L H→LabsAt w' B' L H
  | [],_,h=>h
  | x::L,_,⟨h,H',e,h1,h2⟩=>⟨h,H',e,h1.below hb hB,LabsAt.below hb hB h2⟩
mutual
theorem StAt.below (hb:Below B w w') (hB:B≤B'):∀ {x:St} {h:SH},StAt w B x h→StAt w' B' x h
  | .mk op nm dst val conds labels fields blocks ln,h,⟨h1,h2,h3,h4,h5,h6,⟨H,h7,h8⟩,h9,K,h10,h11⟩=>
    ⟨h1,h2,h3,ExAt.below hb hB h4,ExAt.below hb hB h5,h6.below hb hB,⟨H,h7.below hb hB,LabsAt.below hb hB h8⟩,h9.below hb hB,K,h10.below hb hB,BlksAt.below hb hB h11⟩
theorem StsAt.below (hb:Below B w w') (hB:B≤B'):∀ {L:List St} {H:List SH},StsAt w B L H→StsAt w' B' L H
  | [],_,h=>h
  | x::L,_,⟨h,H',e,h1,h2⟩=>⟨h,H',e,StAt.below hb hB h1,StsAt.below hb hB h2⟩
theorem BlksAt.below (hb:Below B w w') (hB:B≤B'):∀ {L:List (List St)} {H:List Sl},BlksAt w B L H→BlksAt w' B' L H
  | [],_,h=>h
  | x::L,_,⟨h,H',e,⟨K,h1,h2⟩,h3⟩=>⟨h,H',e,⟨K,h1.below hb hB,StsAt.below hb hB h2⟩,BlksAt.below hb hB h3⟩
end
theorem StL.below {s:Sl} {L:List St} (h:StL w B s L) (hb:Below B w w') (hB:B≤B'):StL w' B' s L:=by
  obtain ⟨H,h1,h2⟩:=h;exact ⟨H,h1.below hb hB,StsAt.below hb hB h2⟩
theorem PgAt.below {p:Pg} {h:GH} (hp:PgAt w B p h) (hb:Below B w w') (hB:B≤B'):PgAt w' B' p h:=⟨hp.1,hp.2.1.below hb hB,hp.2.2.below hb hB⟩
end
section
variable {w:World} {B:Nat}
theorem ExsAt.len:∀ {L:List Ex} {H:List EH},ExsAt w B L H→H.length=L.length
  | [],_,h=>by cases h;rfl
  | x::L,_,⟨h,H',e,h1,h2⟩=>by rw [e,List.length_cons,List.length_cons,ExsAt.len h2]
theorem ExsAt.at:∀ {L:List Ex} {H:List EH} {i:Nat} {h:EH},ExsAt w B L H→H[i]?=some h→∃ x,L[i]?=some x∧ExAt w B x h
  | [],_,i,h,e,hi=>by cases e;simp at hi
  | x::L,_,0,h,⟨h',H',e,h1,h2⟩,hi=>by subst e;exact ⟨x,rfl,by simpa using (by simpa using hi:h'=h) ▸ h1⟩
  | x::L,_,i+1,h,⟨h',H',e,h1,h2⟩,hi=>by subst e;exact (ExsAt.at (i:=i) h2 (by simpa using hi)).imp fun y hy=>⟨by simpa using hy.1,hy.2⟩
theorem StsAt.len:∀ {L:List St} {H:List SH},StsAt w B L H→H.length=L.length
  | [],_,h=>by unfold StsAt at h;subst h;rfl
  | x::L,_,h=>by
    unfold StsAt at h;obtain ⟨h,H',e,h1,h2⟩:=h;rw [e,List.length_cons,List.length_cons,StsAt.len h2]
theorem StsAt.at:∀ {L:List St} {H:List SH} {i:Nat} {h:SH},StsAt w B L H→H[i]?=some h→∃ x,L[i]?=some x∧StAt w B x h
  | [],_,i,h,e,hi=>by unfold StsAt at e;subst e;simp at hi
  | x::L,_,0,h,hh,hi=>by
    unfold StsAt at hh;obtain ⟨h',H',e,h1,h2⟩:=hh;subst e;exact ⟨x,rfl,(by simpa using hi:h'=h) ▸ h1⟩
  | x::L,_,i+1,h,hh,hi=>by
    unfold StsAt at hh;obtain ⟨h',H',e,h1,h2⟩:=hh;subst e;exact (StsAt.at (i:=i) h2 (by simpa using hi)).imp fun y hy=>⟨by simpa using hy.1,hy.2⟩
theorem BlksAt.len:∀ {L:List (List St)} {H:List Sl},BlksAt w B L H→H.length=L.length
  | [],_,h=>by unfold BlksAt at h;subst h;rfl
  | x::L,_,h=>by
    unfold BlksAt at h;obtain ⟨h,H',e,h1,h2⟩:=h;rw [e,List.length_cons,List.length_cons,BlksAt.len h2]
theorem BlksAt.at:∀ {L:List (List St)} {H:List Sl} {i:Nat} {h:Sl},BlksAt w B L H→H[i]?=some h→∃ x,L[i]?=some x∧StL w B h x
  | [],_,i,h,e,hi=>by unfold BlksAt at e;subst e;simp at hi
  | x::L,_,0,h,hh,hi=>by
    unfold BlksAt at hh;obtain ⟨h',H',e,h1,h2⟩:=hh;subst e;exact ⟨x,rfl,(by simpa using hi:h'=h) ▸ h1⟩
  | x::L,_,i+1,h,hh,hi=>by
    unfold BlksAt at hh;obtain ⟨h',H',e,h1,h2⟩:=hh;subst e;exact (BlksAt.at (i:=i) h2 (by simpa using hi)).imp fun y hy=>⟨by simpa using hy.1,hy.2⟩
theorem LabsAt.len:∀ {L:List (List Int)} {H:List Sl},LabsAt w B L H→H.length=L.length
  | [],_,h=>by cases h;rfl
  | x::L,_,⟨h,H',e,h1,h2⟩=>by rw [e,List.length_cons,List.length_cons,LabsAt.len h2]
theorem LabsAt.at:∀ {L:List (List Int)} {H:List Sl} {i:Nat} {h:Sl},LabsAt w B L H→H[i]?=some h→∃ x,L[i]?=some x∧RS iC 1 w B h x
  | [],_,i,h,e,hi=>by cases e;simp at hi
  | x::L,_,0,h,⟨h',H',e,h1,h2⟩,hi=>by subst e;exact ⟨x,rfl,(by simpa using hi:h'=h) ▸ h1⟩
  | x::L,_,i+1,h,⟨h',H',e,h1,h2⟩,hi=>by subst e;exact (LabsAt.at (i:=i) h2 (by simpa using hi)).imp fun y hy=>⟨by simpa using hy.1,hy.2⟩
end
mutual
def exSame:Ex→Ex→Bool
  | .mk op n nm fd sub _,.mk op' n' nm' fd' sub' _=>op==op'&&(n==n'&&(nm==nm'&&(fd==fd'&&exsSame sub sub')))
def exsSame:List Ex→List Ex→Bool
  | [],[]=>true
  | x::L,y::M=>exSame x y&&exsSame L M
  | _,_=>false
end
mutual
def stSame:St→St→Bool
  | .mk op nm dst val conds labels fields blocks _,.mk op' nm' dst' val' conds' labels' fields' blocks' _=>
    op==op'&&(nm==nm'&&(exSame dst dst'&&(exSame val val'&&(exsSame conds conds'&&(labels==labels'&&(fields==fields'&&blksSame blocks blocks'))))))
def stsSame:List St→List St→Bool
  | [],[]=>true
  | x::L,y::M=>stSame x y&&stsSame L M
  | _,_=>false
def blksSame:List (List St)→List (List St)→Bool
  | [],[]=>true
  | x::L,y::M=>stsSame x y&&blksSame L M
  | _,_=>false
end
def vaSame (a b:Va):Bool:=a.name==b.name&&(a.type==b.type&&(a.sect==b.sect&&(a.array==b.array&&(a.lo==b.lo&&(a.hi==b.hi&&a.init==b.init)))))
def vasSame:List Va→List Va→Bool
  | [],[]=>true
  | x::L,y::M=>vaSame x y&&vasSame L M
  | _,_=>false
def pgSame (p q:Pg):Bool:=p.name==q.name&&(vasSame p.vars q.vars&&stsSame p.body q.body)
abbrev Sg:=List Tk
inductive Res (α:Type)
  | ok (x:α) (r:Sg)
  | bad (e:Int) (t:Tk)
def Res.bind {α β:Type} (p:Res α) (f:α→Sg→Res β):Res β:=match p with
  | .ok x r=>f x r
  | .bad e t=>.bad e t
def hd (r:Sg):Tk:=match r with
  | t::_=>t
  | []=>⟨0,[],0,1,1⟩
def txt (r:Sg):Str:=match r with
  | t::_=>if t.kind=2∨t.kind=4 then t.text else []
  | []=>[]
def fail {α:Type} (e:Int) (r:Sg):Res α:=.bad e (hd r)
def need (s:Str) (r:Sg):Res Unit:=if txt r=s then .ok () (r.drop 1) else fail 5 r
def want (k:Int) (r:Sg):Res Tk:=if (hd r).kind=k then .ok (hd r) (r.drop 1) else fail 5 r
def opOf (lv:Nat) (s:Str):Int:=
  match lv with
  | 1=>if s=[79,82] then 21 else 0
  | 2=>if s=[88,79,82] then 20 else 0
  | 3=>if s=[65,78,68] then 19 else 0
  | 4=>if s=[61] then 13 else if s=[60,62] then 14 else if s=[60] then 15 else if s=[62] then 16 else if s=[60,61] then 17 else if s=[62,61] then 18 else 0
  | 5=>if s=[43] then 8 else if s=[45] then 9 else 0
  | 6=>if s=[42] then 10 else if s=[47] then 11 else if s=[77,79,68] then 12 else 0
  | _=>0
mutual
def exprF:Nat→Nat→Nat→Sg→Res Ex
  | 0,_,_,r=>fail 99 r
  | f+1,d,lv,r=>if lv=7 then unaryF f d r else (exprF f d (lv+1) r).bind fun x r=>moreF f d lv x r
def moreF:Nat→Nat→Nat→Ex→Sg→Res Ex
  | 0,_,_,_,r=>fail 99 r
  | f+1,d,lv,x,r=>
    if opOf lv (txt r)=0 then .ok x r
    else (exprF f d (lv+1) (r.drop 1)).bind fun y r'=>
      if lv=4 then .ok (.mk (opOf lv (txt r)) 0 [] [] [x,y] (hd r).line) r' else moreF f d lv (.mk (opOf lv (txt r)) 0 [] [] [x,y] (hd r).line) r'
def unaryF:Nat→Nat→Sg→Res Ex
  | 0,_,r=>fail 99 r
  | f+1,d,r=>
    if txt r=[45]∨txt r=[78,79,84] then
      if 32<d+1 then fail 13 r
      else (unaryF f (d+1) (r.drop 1)).bind fun x r'=>.ok (.mk (if txt r=[45] then 6 else 7) 0 [] [] [x] (hd r).line) r'
    else if (hd r).kind=3 then .ok (.mk 1 (hd r).n [] [] [] (hd r).line) (r.drop 1)
    else if txt r=[84,82,85,69] then .ok (.mk 2 1 [] [] [] (hd r).line) (r.drop 1)
    else if txt r=[70,65,76,83,69] then .ok (.mk 2 0 [] [] [] (hd r).line) (r.drop 1)
    else if txt r=[40] then
      if 32<d+1 then fail 13 r
      else (exprF f (d+1) 1 (r.drop 1)).bind fun x r'=>(need [41] r').bind fun _ r'=>.ok x r'
    else (want 1 r).bind fun t r'=>
      if txt r'=[91] then (indexF f d r').bind fun x r'=>.ok (.mk 4 0 t.text [] [x] t.line) r'
      else if txt r'=[46] then (want 1 (r'.drop 1)).bind fun u r'=>.ok (.mk 5 0 t.text u.text [] t.line) r'
      else .ok (.mk 3 0 t.text [] [] t.line) r'
def indexF:Nat→Nat→Sg→Res Ex
  | 0,_,r=>fail 99 r
  | f+1,d,r=>
    if 32<d+1 then fail 13 r
    else (exprF f (d+1) 1 (r.drop 1)).bind fun x r'=>(need [93] r').bind fun _ r'=>.ok x r'
end
def expr (f d:Nat) (r:Sg):Res Ex:=exprF f d 1 r
def intg (r:Sg):Res Int:=if txt r=[45] then (want 3 (r.drop 1)).bind fun t r'=>.ok (-t.n) r' else (want 3 r).bind fun t r'=>.ok t.n r'
def labelsF:Nat→Sg→List Int→Res (List Int)
  | 0,r,_=>fail 99 r
  | f+1,r,acc=>(intg r).bind fun a r'=>
    (if txt r'=[46,46] then intg (r'.drop 1) else .ok a r').bind fun c r'=>
      if txt r'=[44] then labelsF f (r'.drop 1) (acc++[a,c]) else .ok (acc++[a,c]) r'
def argsF:Nat→Nat→Sg→List Str→List Ex→Res (List Str×List Ex)
  | 0,_,r,_,_=>fail 99 r
  | f+1,d,r,fs,cs=>(want 1 r).bind fun t r'=>(need [58,61] r').bind fun _ r'=>(expr f d r').bind fun x r'=>
      if txt r'=[44] then argsF f d (r'.drop 1) (fs++[t.text]) (cs++[x]) else .ok (fs++[t.text],cs++[x]) r'
def oneOf (s:Str) (ends:List Str):Bool:=s != []&&ends.any (fun e=>e==s)
mutual
def stmtsF:Nat→Nat→List Str→Sg→List St→Res (List St)
  | 0,_,_,r,_=>fail 99 r
  | f+1,d,ends,r,acc=>if oneOf (txt r) ends=true then .ok acc r else (stmtF f d r).bind fun s r'=>stmtsF f d ends r' (acc++[s])
def stmtF:Nat→Nat→Sg→Res St
  | 0,_,r=>fail 99 r
  | f+1,d,r=>
    if 32<d+1 then fail 13 r
    else (whatF f (d+1) r).bind fun s r'=>(need [59] r').bind fun _ r'=>.ok (s (hd r).line) r'
def whatF:Nat→Nat→Sg→Res (Int→St)
  | 0,_,r=>fail 99 r
  | f+1,d,r=>
    if txt r=[73,70] then ifF f d (r.drop 1) [] []
    else if txt r=[67,65,83,69] then (expr f d (r.drop 1)).bind fun x r'=>(need [79,70] r').bind fun _ r'=>caseF f d x r' [] []
    else if txt r=[70,79,82] then (want 1 (r.drop 1)).bind fun t r'=>(need [58,61] r').bind fun _ r'=>(expr f d r').bind fun a r'=>(need [84,79] r').bind fun _ r'=>(expr f d r').bind fun c r'=>
      (if txt r'=[66,89] then expr f d (r'.drop 1) else .ok (.mk 1 1 [] [] [] (hd r').line) r').bind fun y r'=>(need [68,79] r').bind fun _ r'=>(stmtsF f d [[69,78,68,95,70,79,82]] r' []).bind fun B r'=>(need [69,78,68,95,70,79,82] r').bind fun _ r'=>
      .ok (fun ln=>.mk 4 t.text zeroE zeroE [a,c,y] [] [] [B] ln) r'
    else if txt r=[87,72,73,76,69] then (expr f d (r.drop 1)).bind fun x r'=>(need [68,79] r').bind fun _ r'=>(stmtsF f d [[69,78,68,95,87,72,73,76,69]] r' []).bind fun B r'=>(need [69,78,68,95,87,72,73,76,69] r').bind fun _ r'=>.ok (fun ln=>.mk 5 [] zeroE x [] [] [] [B] ln) r'
    else if txt r=[82,69,80,69,65,84] then (stmtsF f d [[85,78,84,73,76]] (r.drop 1) []).bind fun B r'=>(need [85,78,84,73,76] r').bind fun _ r'=>(expr f d r').bind fun x r'=>(need [69,78,68,95,82,69,80,69,65,84] r').bind fun _ r'=>.ok (fun ln=>.mk 6 [] zeroE x [] [] [] [B] ln) r'
    else if txt r=[69,88,73,84] then .ok (fun ln=>.mk 7 [] zeroE zeroE [] [] [] [] ln) (r.drop 1)
    else if txt r=[82,69,84,85,82,78] then .ok (fun ln=>.mk 8 [] zeroE zeroE [] [] [] [] ln) (r.drop 1)
    else (want 1 r).bind fun t r'=>
      if txt r'=[40] then
        if txt (r'.drop 1)=[41] then .ok (fun ln=>.mk 9 t.text zeroE zeroE [] [] [] [] ln) (r'.drop 2)
        else (argsF f d (r'.drop 1) [] []).bind fun a r'=>(need [41] r').bind fun _ r'=>.ok (fun ln=>.mk 9 t.text zeroE zeroE a.2 [] a.1 [] ln) r'
      else (if txt r'=[91] then (indexF f d r').bind fun x r'=>.ok (Ex.mk 4 0 t.text [] [x] t.line) r' else .ok (Ex.mk 3 0 t.text [] [] t.line) r').bind fun dst r'=>
        (need [58,61] r').bind fun _ r'=>(expr f d r').bind fun x r'=>.ok (fun ln=>.mk 1 [] dst x [] [] [] [] ln) r'
def ifF:Nat→Nat→Sg→List Ex→List (List St)→Res (Int→St)
  | 0,_,r,_,_=>fail 99 r
  | f+1,d,r,cs,bs=>(expr f d r).bind fun x r'=>(need [84,72,69,78] r').bind fun _ r'=>(stmtsF f d [[69,76,83,73,70],[69,76,83,69],[69,78,68,95,73,70]] r' []).bind fun B r'=>
    if txt r'=[69,76,83,73,70] then ifF f d (r'.drop 1) (cs++[x]) (bs++[B])
    else (if txt r'=[69,76,83,69] then (stmtsF f d [[69,78,68,95,73,70]] (r'.drop 1) []).bind fun E r'=>.ok (bs++[B]++[E]) r' else .ok (bs++[B]) r').bind fun bs' r'=>
      (need [69,78,68,95,73,70] r').bind fun _ r'=>.ok (fun ln=>.mk 2 [] zeroE zeroE (cs++[x]) [] [] bs' ln) r'
def caseF:Nat→Nat→Ex→Sg→List (List Int)→List (List St)→Res (Int→St)
  | 0,_,_,r,_,_=>fail 99 r
  | f+1,d,x,r,ls,bs=>
    if (hd r).kind=3∨txt r=[45] then (labelsF f r []).bind fun l r'=>(need [58] r').bind fun _ r'=>(blockF f d r' []).bind fun B r'=>caseF f d x r' (ls++[l]) (bs++[B])
    else (if txt r=[69,76,83,69] then (stmtsF f d [[69,78,68,95,67,65,83,69]] (r.drop 1) []).bind fun E r'=>.ok (bs++[E]) r' else .ok bs r).bind fun bs' r'=>
      (need [69,78,68,95,67,65,83,69] r').bind fun _ r'=>.ok (fun ln=>.mk 3 [] zeroE x [] ls [] bs' ln) r'
def blockF:Nat→Nat→Sg→List St→Res (List St)
  | 0,_,r,_=>fail 99 r
  | f+1,d,r,acc=>
    if (hd r).kind=3∨oneOf (txt r) [[45],[69,76,83,69],[69,78,68,95,67,65,83,69]]=true then .ok acc r else (stmtF f d r).bind fun s r'=>blockF f d r' (acc++[s])
end
def kinds:List (Str×Int):=[([84,79,78],10),([84,79,70],11),([84,80],12),([67,84,85],13),([67,84,68],14),([82,95,84,82,73,71],15),([70,95,84,82,73,71],16),([83,82],17),([82,83],18),([77,67,95,80,111,119,101,114],20),([77,67,95,72,111,109,101],21),([77,67,95,83,116,111,112],22),([77,67,95,72,97,108,116],23),([77,67,95,77,111,118,101,65,98,115,111,108,117,116,101],24),([77,67,95,77,111,118,101,82,101,108,97,116,105,118,101],25),([77,67,95,77,111,118,101,65,100,100,105,116,105,118,101],26),([77,67,95,77,111,118,101,86,101,108,111,99,105,116,121],27),([77,67,95,71,101,97,114,73,110],28),([77,67,95,82,101,115,101,116],29),([77,67,95,83,101,116,80,111,115,105,116,105,111,110],30),([77,67,95,83,101,116,79,118,101,114,114,105,100,101],31)]
def kindOf (s:Str):Int:=match kinds.find? (fun k=>k.1==s) with
  | some k=>k.2
  | none=>0
def namesF:Nat→Nat→Sg→List Tk→Res (List Tk)
  | 0,_,r,_=>fail 99 r
  | f+1,m,r,acc=>if 64<m+acc.length+1 then fail 13 r else (want 1 r).bind fun t r'=>
    if txt r'=[44] then namesF f m (r'.drop 1) (acc++[t]) else .ok (acc++[t]) r'
def simpleT (r:Sg):Int:=if txt r=[73,78,84] then 1 else if txt r=[66,79,79,76] then 2 else 0
def typeP (r:Sg):Res (Int×Bool×Int×Int):=
  if simpleT r≠0 then .ok (simpleT r,false,0,0) (r.drop 1)
  else if txt r=[65,82,82,65,89] then (need [91] (r.drop 1)).bind fun _ r'=>(want 3 r').bind fun lo r'=>(need [46,46] r').bind fun _ r'=>(want 3 r').bind fun hi r'=>
    if hi.n<lo.n∨255<hi.n then .bad 1 hi
    else (need [93] r').bind fun _ r'=>(need [79,70] r').bind fun _ r'=>if simpleT r'≠0 then .ok (simpleT r',true,lo.n,hi.n) (r'.drop 1) else fail 5 r'
  else (want 1 r).bind fun t r'=>if kindOf t.text=0 then .bad 9 t else .ok (kindOf t.text,false,0,0) r'
def valueP (r:Sg):Res (Bool×Int):=
  if txt r=[84,82,85,69] then .ok (true,1) (r.drop 1) else if txt r=[70,65,76,83,69] then .ok (true,0) (r.drop 1) else (intg r).bind fun n r'=>.ok (false,n) r'
def lineP (f:Nat) (sec:Int) (r:Sg) (vs:List Va):Res (List Va):=
  (namesF f vs.length r []).bind fun ns r'=>(need [58] r').bind fun _ r1=>(typeP r1).bind fun ty r'=>
    (if txt r'=[58,61] then (valueP (r'.drop 1)).bind fun v r'=>
        if ty.2.1=true∨2<ty.1∨(v.1=true∧ty.1=1)∨(v.1=false∧ty.1=2) then .bad 1 (hd r1) else .ok v.2 r'
      else .ok 0 r').bind fun init r'=>
    (need [59] r').bind fun _ r'=>.ok (vs++ns.map fun t=>⟨t.text,ty.1,sec,ty.2.1,ty.2.2.1,ty.2.2.2,init,t.line⟩) r'
def linesF:Nat→Int→Sg→List Va→Res (List Va)
  | 0,_,r,_=>fail 99 r
  | f+1,sec,r,vs=>if txt r=[69,78,68,95,86,65,82] then .ok vs (r.drop 1) else (lineP f sec r vs).bind fun vs r'=>linesF f sec r' vs
def sectsF:Nat→Sg→List Va→Res (List Va)
  | 0,r,_=>fail 99 r
  | f+1,r,vs=>
    if txt r=[86,65,82,95,73,78,80,85,84] then (linesF f 1 (r.drop 1) vs).bind fun vs r'=>sectsF f r' vs
    else if txt r=[86,65,82,95,79,85,84,80,85,84] then (linesF f 2 (r.drop 1) vs).bind fun vs r'=>sectsF f r' vs
    else if txt r=[86,65,82] then (linesF f 0 (r.drop 1) vs).bind fun vs r'=>sectsF f r' vs
    else .ok vs r
def progP (f:Nat) (r:Sg):Res Pg:=
  (need [80,82,79,71,82,65,77] r).bind fun _ r'=>(want 1 r').bind fun t r'=>(sectsF f r' []).bind fun vs r'=>(stmtsF f 0 [[69,78,68,95,80,82,79,71,82,65,77]] r' []).bind fun b r'=>
    (need [69,78,68,95,80,82,79,71,82,65,77] r').bind fun _ r'=>if (hd r').kind=0 then .ok ⟨t.text,vs,b⟩ r' else fail 5 r'
def parse (s:Str):Pg×Int×Tk:=
  if (lex s).1=0 then match progP (20*(lex s).2.1.length+20) (lex s).2.1 with
    | .ok p _=>(p,0,zeroT)
    | .bad e t=>(zeroG,e,⟨0,[],0,t.line,t.col⟩)
  else (zeroG,(lex s).1,(lex s).2.2)
def Good {α:Type} (r:Sg) (p:Res α):Prop:=match p with
 | .ok _ r'=>r' <:+ r
 | .bad e t=>e≠0∧∃ r',r' <:+ r∧t=hd r'
theorem Good.bind {α β:Type} {r:Sg} {p:Res α} {f:α→Sg→Res β} (h:Good r p) (hf:∀ x r',p=.ok x r'→r' <:+ r→Good r (f x r')):Good r (p.bind f):=by
 cases p with
 | ok x r'=>exact hf x r' rfl h
 | bad e t=>exact h
theorem bind_ok {α β:Type} {p:Res α} {f:α→Sg→Res β} {y:β} {r:Sg} (h:p.bind f=.ok y r):∃ x r',p=.ok x r'∧f x r'=.ok y r:=by
 cases p with
 | ok x r'=>exact ⟨x,r',rfl,h⟩
 | bad e t=>simp [Res.bind] at h
theorem suf_drop {r r':Sg} (n:Nat) (h:r' <:+ r):r'.drop n <:+ r:=(List.drop_suffix n r').trans h
theorem good_ok {α:Type} {r r':Sg} {x:α} (h:r' <:+ r):Good r (Res.ok x r'):=h
theorem good_fail {α:Type} {r r':Sg} {e:Int} (he:e≠0) (h:r' <:+ r):Good r (fail e r':Res α):=⟨he,r',h,rfl⟩
theorem good_need {r r':Sg} {s:Str} (h:r' <:+ r):Good r (need s r'):=by
 unfold need;split
 ·exact suf_drop 1 h
 ·exact good_fail (by decide) h
theorem good_want {r r':Sg} {k:Int} (h:r' <:+ r):Good r (want k r'):=by
 unfold want;split
 ·exact suf_drop 1 h
 ·exact good_fail (by decide) h
theorem want_ok {r r':Sg} {k:Int} {t:Tk} (h:want k r=.ok t r'):t=hd r:=by
 unfold want at h;split at h
 ·cases h;rfl
 ·cases h
theorem good_bad {α:Type} {r r' r1:Sg} {k e:Int} {t:Tk} (hw:want k r'=.ok t r1) (he:e≠0) (h:r' <:+ r):Good r (.bad e t:Res α):=⟨he,r',h,want_ok hw⟩
theorem good_bad' {α:Type} {r r':Sg} {e:Int} (he:e≠0) (h:r' <:+ r):Good r (.bad e (hd r'):Res α):=⟨he,r',h,rfl⟩
theorem goodE:∀ f:Nat,(∀ (d:Nat) (lv:Nat) (r:Sg) (r1:Sg),r1 <:+ r→Good r (exprF f d lv r1))∧(∀ (d:Nat) (lv:Nat) (x:Ex) (r:Sg) (r1:Sg),r1 <:+ r→Good r (moreF f d lv x r1))∧(∀ (d:Nat) (r:Sg) (r1:Sg),r1 <:+ r→Good r (unaryF f d r1))∧(∀ (d:Nat) (r:Sg) (r1:Sg),r1 <:+ r→Good r (indexF f d r1)):=by
 intro f;induction f with
 | zero=>
  refine ⟨?_,?_,?_,?_⟩
  ·intro d lv r r1 h
   rw [exprF];exact good_fail (by decide) h
  ·intro d lv x r r1 h
   rw [moreF];exact good_fail (by decide) h
  ·intro d r r1 h
   rw [unaryF];exact good_fail (by decide) h
  ·intro d r r1 h
   rw [indexF];exact good_fail (by decide) h
 | succ f ih=>
  obtain ⟨i1,i2,i3,i4⟩:=ih;refine ⟨?_,?_,?_,?_⟩
  ·intro d lv r r1 h
   rw [exprF];repeat' first|(with_reducible first|assumption|exact List.suffix_refl _|apply suf_drop|apply good_ok|apply good_fail|apply good_need|apply good_want|apply i1|apply i2|apply i3|apply i4|exact good_bad (by assumption) (by decide) (by assumption)|apply good_bad'|refine Good.bind ?_ fun _ _ _ _=>?_)|decide|split
  ·intro d lv x r r1 h
   rw [moreF];repeat' first|(with_reducible first|assumption|exact List.suffix_refl _|apply suf_drop|apply good_ok|apply good_fail|apply good_need|apply good_want|apply i1|apply i2|apply i3|apply i4|exact good_bad (by assumption) (by decide) (by assumption)|apply good_bad'|refine Good.bind ?_ fun _ _ _ _=>?_)|decide|split
  ·intro d r r1 h
   rw [unaryF];repeat' first|(with_reducible first|assumption|exact List.suffix_refl _|apply suf_drop|apply good_ok|apply good_fail|apply good_need|apply good_want|apply i1|apply i2|apply i3|apply i4|exact good_bad (by assumption) (by decide) (by assumption)|apply good_bad'|refine Good.bind ?_ fun _ _ _ _=>?_)|decide|split
  ·intro d r r1 h
   rw [indexF];repeat' first|(with_reducible first|assumption|exact List.suffix_refl _|apply suf_drop|apply good_ok|apply good_fail|apply good_need|apply good_want|apply i1|apply i2|apply i3|apply i4|exact good_bad (by assumption) (by decide) (by assumption)|apply good_bad'|refine Good.bind ?_ fun _ _ _ _=>?_)|decide|split
theorem good_expr {f d:Nat} {r r1:Sg} (h:r1 <:+ r):Good r (expr f d r1):=(goodE f).1 d 1 r r1 h
theorem good_index {f d:Nat} {r r1:Sg} (h:r1 <:+ r):Good r (indexF f d r1):=(goodE f).2.2.2 d r r1 h
theorem good_intg {r r1:Sg} (h:r1 <:+ r):Good r (intg r1):=by
 unfold intg;repeat' first|(with_reducible first|assumption|exact List.suffix_refl _|apply suf_drop|apply good_ok|apply good_fail|apply good_need|apply good_want|exact good_bad (by assumption) (by decide) (by assumption)|apply good_bad'|refine Good.bind ?_ fun _ _ _ _=>?_)|decide|split
theorem good_labels:∀ (f:Nat) (r r1:Sg) (acc:List Int),r1 <:+ r→Good r (labelsF f r1 acc)
 | 0,r,r1,acc,h=>by
  rw [labelsF];exact good_fail (by decide) h
 | f+1,r,r1,acc,h=>by
  rw [labelsF];repeat' first|(with_reducible first|assumption|exact List.suffix_refl _|apply suf_drop|apply good_ok|apply good_fail|apply good_need|apply good_want|apply good_labels|apply good_intg|exact good_bad (by assumption) (by decide) (by assumption)|apply good_bad'|refine Good.bind ?_ fun _ _ _ _=>?_)|decide|split
theorem good_args:∀ (f:Nat) (d:Nat) (r r1:Sg) (fs:List Str) (cs:List Ex),r1 <:+ r→Good r (argsF f d r1 fs cs)
 | 0,d,r,r1,fs,cs,h=>by
  rw [argsF];exact good_fail (by decide) h
 | f+1,d,r,r1,fs,cs,h=>by
  rw [argsF];repeat' first|(with_reducible first|assumption|exact List.suffix_refl _|apply suf_drop|apply good_ok|apply good_fail|apply good_need|apply good_want|apply good_args|apply good_expr|exact good_bad (by assumption) (by decide) (by assumption)|apply good_bad'|refine Good.bind ?_ fun _ _ _ _=>?_)|decide|split
theorem goodS:∀ f:Nat,(∀ (d:Nat) (ends:List Str) (r:Sg) (r1:Sg) (ac:List St),r1 <:+ r→Good r (stmtsF f d ends r1 ac))∧(∀ (d:Nat) (r:Sg) (r1:Sg),r1 <:+ r→Good r (stmtF f d r1))∧(∀ (d:Nat) (r:Sg) (r1:Sg),r1 <:+ r→Good r (whatF f d r1))∧(∀ (d:Nat) (r:Sg) (r1:Sg) (cs:List Ex) (bs:List (List St)),r1 <:+ r→Good r (ifF f d r1 cs bs))∧(∀ (d:Nat) (x:Ex) (r:Sg) (r1:Sg) (ls:List (List Int)) (bs:List (List St)),r1 <:+ r→Good r (caseF f d x r1 ls bs))∧(∀ (d:Nat) (r:Sg) (r1:Sg) (ac:List St),r1 <:+ r→Good r (blockF f d r1 ac)):=by
 intro f;induction f with
 | zero=>
  refine ⟨?_,?_,?_,?_,?_,?_⟩
  ·intro d ends r r1 ac h
   rw [stmtsF];exact good_fail (by decide) h
  ·intro d r r1 h
   rw [stmtF];exact good_fail (by decide) h
  ·intro d r r1 h
   rw [whatF];exact good_fail (by decide) h
  ·intro d r r1 cs bs h
   rw [ifF];exact good_fail (by decide) h
  ·intro d x r r1 ls bs h
   rw [caseF];exact good_fail (by decide) h
  ·intro d r r1 ac h
   rw [blockF];exact good_fail (by decide) h
 | succ f ih=>
  obtain ⟨i1,i2,i3,i4,i5,i6⟩:=ih;refine ⟨?_,?_,?_,?_,?_,?_⟩
  ·intro d ends r r1 ac h
   rw [stmtsF];repeat' first|(with_reducible first|assumption|exact List.suffix_refl _|apply suf_drop|apply good_ok|apply good_fail|apply good_need|apply good_want|apply i1|apply i2|apply i3|apply i4|apply i5|apply i6|apply good_expr|apply good_index|apply good_args|apply good_labels|exact good_bad (by assumption) (by decide) (by assumption)|apply good_bad'|refine Good.bind ?_ fun _ _ _ _=>?_)|decide|split
  ·intro d r r1 h
   rw [stmtF];repeat' first|(with_reducible first|assumption|exact List.suffix_refl _|apply suf_drop|apply good_ok|apply good_fail|apply good_need|apply good_want|apply i1|apply i2|apply i3|apply i4|apply i5|apply i6|apply good_expr|apply good_index|apply good_args|apply good_labels|exact good_bad (by assumption) (by decide) (by assumption)|apply good_bad'|refine Good.bind ?_ fun _ _ _ _=>?_)|decide|split
  ·intro d r r1 h
   rw [whatF];repeat' first|(with_reducible first|assumption|exact List.suffix_refl _|apply suf_drop|apply good_ok|apply good_fail|apply good_need|apply good_want|apply i1|apply i2|apply i3|apply i4|apply i5|apply i6|apply good_expr|apply good_index|apply good_args|apply good_labels|exact good_bad (by assumption) (by decide) (by assumption)|apply good_bad'|refine Good.bind ?_ fun _ _ _ _=>?_)|decide|split
  ·intro d r r1 cs bs h
   rw [ifF];repeat' first|(with_reducible first|assumption|exact List.suffix_refl _|apply suf_drop|apply good_ok|apply good_fail|apply good_need|apply good_want|apply i1|apply i2|apply i3|apply i4|apply i5|apply i6|apply good_expr|apply good_index|apply good_args|apply good_labels|exact good_bad (by assumption) (by decide) (by assumption)|apply good_bad'|refine Good.bind ?_ fun _ _ _ _=>?_)|decide|split
  ·intro d x r r1 ls bs h
   rw [caseF];repeat' first|(with_reducible first|assumption|exact List.suffix_refl _|apply suf_drop|apply good_ok|apply good_fail|apply good_need|apply good_want|apply i1|apply i2|apply i3|apply i4|apply i5|apply i6|apply good_expr|apply good_index|apply good_args|apply good_labels|exact good_bad (by assumption) (by decide) (by assumption)|apply good_bad'|refine Good.bind ?_ fun _ _ _ _=>?_)|decide|split
  ·intro d r r1 ac h
   rw [blockF];repeat' first|(with_reducible first|assumption|exact List.suffix_refl _|apply suf_drop|apply good_ok|apply good_fail|apply good_need|apply good_want|apply i1|apply i2|apply i3|apply i4|apply i5|apply i6|apply good_expr|apply good_index|apply good_args|apply good_labels|exact good_bad (by assumption) (by decide) (by assumption)|apply good_bad'|refine Good.bind ?_ fun _ _ _ _=>?_)|decide|split
theorem good_stmts {f d:Nat} {ends:List Str} {r r1:Sg} {ac:List St} (h:r1 <:+ r):Good r (stmtsF f d ends r1 ac):=(goodS f).1 d ends r r1 ac h
theorem good_names:∀ (f:Nat) (m:Nat) (r r1:Sg) (acc:List Tk),r1 <:+ r→Good r (namesF f m r1 acc)
 | 0,m,r,r1,acc,h=>by
  rw [namesF];exact good_fail (by decide) h
 | f+1,m,r,r1,acc,h=>by
  rw [namesF];repeat' first|(with_reducible first|assumption|exact List.suffix_refl _|apply suf_drop|apply good_ok|apply good_fail|apply good_need|apply good_want|apply good_names|exact good_bad (by assumption) (by decide) (by assumption)|apply good_bad'|refine Good.bind ?_ fun _ _ _ _=>?_)|decide|split
theorem good_type {r r1:Sg} (h:r1 <:+ r):Good r (typeP r1):=by
 unfold typeP;repeat' first|(with_reducible first|assumption|exact List.suffix_refl _|apply suf_drop|apply good_ok|apply good_fail|apply good_need|apply good_want|exact good_bad (by assumption) (by decide) (by assumption)|apply good_bad'|refine Good.bind ?_ fun _ _ _ _=>?_)|decide|split
theorem good_value {r r1:Sg} (h:r1 <:+ r):Good r (valueP r1):=by
 unfold valueP;repeat' first|(with_reducible first|assumption|exact List.suffix_refl _|apply suf_drop|apply good_ok|apply good_fail|apply good_need|apply good_want|apply good_intg|exact good_bad (by assumption) (by decide) (by assumption)|apply good_bad'|refine Good.bind ?_ fun _ _ _ _=>?_)|decide|split
theorem good_line {f:Nat} {sec:Int} {vs:List Va} {r r1:Sg} (h:r1 <:+ r):Good r (lineP f sec r1 vs):=by
 unfold lineP;repeat' first|(with_reducible first|assumption|exact List.suffix_refl _|apply suf_drop|apply good_ok|apply good_fail|apply good_need|apply good_want|apply good_names|apply good_type|apply good_value|exact good_bad (by assumption) (by decide) (by assumption)|apply good_bad'|refine Good.bind ?_ fun _ _ _ _=>?_)|decide|split
theorem good_lines:∀ (f:Nat) (sec:Int) (r r1:Sg) (vs:List Va),r1 <:+ r→Good r (linesF f sec r1 vs)
 | 0,sec,r,r1,vs,h=>by
  rw [linesF];exact good_fail (by decide) h
 | f+1,sec,r,r1,vs,h=>by
  rw [linesF];repeat' first|(with_reducible first|assumption|exact List.suffix_refl _|apply suf_drop|apply good_ok|apply good_fail|apply good_need|apply good_want|apply good_lines|apply good_line|exact good_bad (by assumption) (by decide) (by assumption)|apply good_bad'|refine Good.bind ?_ fun _ _ _ _=>?_)|decide|split
theorem good_sects:∀ (f:Nat) (r r1:Sg) (vs:List Va),r1 <:+ r→Good r (sectsF f r1 vs)
 | 0,r,r1,vs,h=>by
  rw [sectsF];exact good_fail (by decide) h
 | f+1,r,r1,vs,h=>by
  rw [sectsF];repeat' first|(with_reducible first|assumption|exact List.suffix_refl _|apply suf_drop|apply good_ok|apply good_fail|apply good_need|apply good_want|apply good_sects|apply good_lines|exact good_bad (by assumption) (by decide) (by assumption)|apply good_bad'|refine Good.bind ?_ fun _ _ _ _=>?_)|decide|split
theorem good_prog {f:Nat} {r r1:Sg} (h:r1 <:+ r):Good r (progP f r1):=by
 unfold progP;repeat' first|(with_reducible first|assumption|exact List.suffix_refl _|apply suf_drop|apply good_ok|apply good_fail|apply good_need|apply good_want|apply good_sects|apply good_stmts|exact good_bad (by assumption) (by decide) (by assumption)|apply good_bad'|refine Good.bind ?_ fun _ _ _ _=>?_)|decide|split
def gB (c:UInt8):UInt8:=if c=32 then 10 else c
def NoSl (r:Str):Prop:=∀ i,two (r.drop i) 47 47=false
theorem NoSl.drop {r:Str} (h:NoSl r) (n:Nat):NoSl (r.drop n):=fun i=>by rw [List.drop_drop];exact h _
theorem body_ne {c:UInt8} (h:bodyB c=true):gB c=c:=by
  unfold gB;split
  · rename_i e;subst e;cases h
  · rfl
theorem take_body:∀ r:Str,(r.map gB).take (bodyLen r)=r.take (bodyLen r)
  | []=>rfl
  | c::l=>by
    rw [bodyLen];split
    · rename_i h
      rw [List.map_cons,List.take_succ_cons,List.take_succ_cons,body_ne h,take_body l]
    · rfl
end tr
namespace sh
open ChangeShapes WideShapes ChangeAt RowKit k rr tk tr
def nmB (s:Str):Bool:=match s with
 | []=>false
 | c::_=>alphaB c&&(s.all bodyB&&(decide (s.length≤16)&&!isWord s))
def mostE (op:Int):Int:=if op=1 then 9223372036854775807 else if op=2 then 1 else 0
def namedE (op:Int):Bool:=op==3||(op==4||op==5)
def fieldE (op:Int):Bool:=op==5
def subsE (op:Int):Nat:=if op=4∨op=6∨op=7 then 1 else if 8≤op then 2 else 0
def nameB (there:Bool) (s:Str):Bool:=if there=true then nmB s else s==[]
def exOk (op n:Int) (nm fd:Str) (k:Nat):Bool:=(decide (1≤op)&&decide (op≤21))&&(decide (0≤n)&&(decide (n≤mostE op)&&(nameB (namedE op) nm&&(nameB (fieldE op) fd&&k==subsE op))))
mutual
def exB:Ex→Bool
 | .mk op n nm fd sub _=>exOk op n nm fd sub.length&&exsB sub
def exsB:List Ex→Bool
 | []=>true
 | x::l=>exB x&&exsB l
end
def noE:Ex→Bool
 | .mk op n nm fd sub _=>op==0&&(n==0&&(nm==[]&&(fd==[]&&sub.length==0)))
def opE:Ex→Int
 | .mk op _ _ _ _ _=>op
def placeB (x:Ex):Bool:=(opE x==3||opE x==4)&&exB x
structure Pt where
 nm:Nat
 dst:Nat
 val:Nat
 cs:Nat
 ls:Nat
 fs:Nat
 bs:Nat
deriving DecidableEq
def elseB (h a:Pt):Bool:=decide (h=a)||decide (h={a with bs:=a.bs+1})
def stOk (op:Int) (h:Pt):Bool:=
 if op=1 then decide (h=⟨0,1,1,0,0,0,0⟩)
 else if op=2 then decide (0<h.cs)&&elseB h ⟨0,0,0,h.cs,0,0,h.cs⟩
 else if op=3 then elseB h ⟨0,0,1,0,h.ls,0,h.ls⟩
 else if op=4 then decide (h=⟨1,0,0,3,0,0,1⟩)
 else if op=5∨op=6 then decide (h=⟨0,0,1,0,0,0,1⟩)
 else if op=7∨op=8 then decide (h=⟨0,0,0,0,0,0,0⟩)
 else if op=9 then decide (h=⟨1,0,0,h.cs,0,h.cs,0⟩)
 else false
def oneIf (b:Bool):Nat:=if b=true then 1 else 0
def labB (l:List Int):Bool:=decide (0<l.length)&&(l.length % 2==0&&l.all (fun n=>n != -9223372036854775808))
mutual
def stB:St→Bool
 | .mk op nm dst val conds labels fields blocks _=>
  stOk op ⟨oneIf (nm != []),oneIf (!noE dst),oneIf (!noE val),conds.length,labels.length,fields.length,blocks.length⟩ &&
  ((nm==[]||nmB nm)&&((noE dst||placeB dst)&&((noE val||exB val)&&(exsB conds&&(labels.all labB&&(fields.all nmB&&blksB blocks))))))
def stsB:List St→Bool
 | []=>true
 | x::l=>stB x&&stsB l
def blksB:List (List St)→Bool
 | []=>true
 | x::l=>stsB x&&blksB l
end
def typeB (v:Va):Bool:=
 if v.array=true then (v.type==1||v.type==2)&&(decide (0≤v.lo)&&(decide (v.lo≤v.hi)&&(decide (v.hi≤255)&&v.init==0)))
 else if v.lo≠0∨v.hi≠0 then false
 else if v.type=1 then v.init != -9223372036854775808
 else if v.type=2 then v.init==0||v.init==1
 else (kinds.any fun k=>k.2==v.type)&&v.init==0
def vaB (v:Va):Bool:=nmB v.name&&((v.sect==0||(v.sect==1||v.sect==2))&&typeB v)
def pgB (p:Pg):Bool:=nmB p.name&&(decide (p.vars.length≤64)&&(p.vars.all vaB&&stsB p.body))
def numS (n:Int):Str:=Lib.itoa n
def truthS (n:Int):Str:=if n=0 then [70,65,76,83,69] else [84,82,85,69]
def opS (op:Int):Str:=
 if op=8 then [43] else if op=9 then [45] else if op=10 then [42] else if op=11 then [47] else if op=12 then [77,79,68]
 else if op=13 then [61] else if op=14 then [60,62] else if op=15 then [60] else if op=16 then [62] else if op=17 then [60,61] else if op=18 then [62,61]
 else if op=19 then [65,78,68] else if op=20 then [88,79,82] else if op=21 then [79,82] else []
def exT (op n:Int) (nm fd:Str) (T:List Str):Str:=
 if op=1 then numS n else if op=2 then truthS n else if op=3 then nm
 else if op=4 then nm++[91]++T.headD []++[93]
 else if op=5 then nm++[46]++fd
 else if op=6 then [40,45]++T.headD []++[41]
 else if op=7 then [40,78,79,84,32]++T.headD []++[41]
 else [40]++T.headD []++([32]++opS op++[32])++(T.drop 1).headD []++[41]
mutual
def exS:Ex→Str
 | .mk op n nm fd sub _=>exT op n nm fd (exsS sub)
def exsS:List Ex→List Str
 | []=>[]
 | x::l=>exS x::exsS l
end
def elseT:List Str→Str
 | []=>[]
 | b::l=>[69,76,83,69,10]++b++elseT l
def ifT (word:Str):List Str→List Str→Str
 | [],bs=>elseT bs
 | c::cs,bs=>word++c++[32,84,72,69,78,10]++bs.headD []++ifT [69,76,83,73,70,32] cs (bs.drop 1)
def labT:Bool→List Int→Str
 | m,a::b::l=>(if m=true then [44,32] else [])++numS a++(if b=a then [] else [46,46]++numS b)++labT true l
 | _,_=>[58,10]
def caseT:List (List Int)→List Str→Str
 | [],bs=>elseT bs
 | l::ls,bs=>labT false l++bs.headD []++caseT ls (bs.drop 1)
def argT:Bool→List Str→List Str→Str
 | m,f::fs,cs=>(if m=true then [44,32] else [])++(f++[32,58,61,32])++cs.headD []++argT true fs (cs.drop 1)
 | _,[],_=>[]
def stT (op:Int) (nm dst val:Str) (cs:List Str) (ls:List (List Int)) (fs bs:List Str):Str:=
 if op=1 then dst++[32,58,61,32]++val++[59,10]
 else if op=2 then ifT [73,70,32] cs bs++[69,78,68,95,73,70,59,10]
 else if op=3 then [67,65,83,69,32]++val++[32,79,70,10]++caseT ls bs++[69,78,68,95,67,65,83,69,59,10]
 else if op=4 then [70,79,82,32]++nm++[32,58,61,32]++cs.headD []++[32,84,79,32]++(cs.drop 1).headD []++[32,66,89,32]++(cs.drop 2).headD []++[32,68,79,10]++bs.headD []++[69,78,68,95,70,79,82,59,10]
 else if op=5 then [87,72,73,76,69,32]++val++[32,68,79,10]++bs.headD []++[69,78,68,95,87,72,73,76,69,59,10]
 else if op=6 then [82,69,80,69,65,84,10]++bs.headD []++[85,78,84,73,76,32]++val++[32,69,78,68,95,82,69,80,69,65,84,59,10]
 else if op=7 then [69,88,73,84,59,10]
 else if op=8 then [82,69,84,85,82,78,59,10]
 else nm++[40]++argT false fs cs++[41,59,10]
mutual
def stS:St→Str
 | .mk op nm dst val conds labels fields blocks _=>stT op nm (exS dst) (exS val) (exsS conds) labels fields (blksS blocks)
def stsS:List St→Str
 | []=>[]
 | x::l=>stS x++stsS l
def blksS:List (List St)→List Str
 | []=>[]
 | x::l=>stsS x::blksS l
end
def secS (n:Int):Str:=if n=0 then [86,65,82] else if n=1 then [86,65,82,95,73,78,80,85,84] else if n=2 then [86,65,82,95,79,85,84,80,85,84] else []
def plainS (n:Int):Str:=if n=1 then [73,78,84] else if n=2 then [66,79,79,76] else []
def kindS (n:Int):Str:=match kinds.find? (fun k=>k.2==n) with
 | some k=>k.1
 | none=>[]
def typeS (v:Va):Str:=
 if v.array=true then [65,82,82,65,89,91]++numS v.lo++[46,46]++numS v.hi++[93,32,79,70,32]++plainS v.type
 else if v.type=1 then plainS v.type++[32,58,61,32]++numS v.init
 else if v.type=2 then plainS v.type++[32,58,61,32]++truthS v.init
 else kindS v.type
def vaS (v:Va):Str:=secS v.sect++[10]++(v.name++[32,58,32]++typeS v++[59,10])++[69,78,68,95,86,65,82,10]
def vasS:List Va→Str
 | []=>[]
 | v::l=>vaS v++vasS l
def pgS (p:Pg):Str:=[80,82,79,71,82,65,77,32]++p.name++[10]++vasS p.vars++stsS p.body++[69,78,68,95,80,82,79,71,82,65,77,10]
def showP (p:Pg):Str×Int:=if pgB p=true then (if 16384<(pgS p).length then ([],13) else (pgS p,0)) else ([],5)
def awakeP:Pg:=⟨[112],[],[.mk 1 [] (.mk 3 0 [97] [] [] 0) (.mk 8 0 [] [] [.mk 1 1 [] [] [] 0,.mk 6 0 [] [] [.mk 3 0 [98] [] [] 0] 0] 0) [] [] [] [] 0]⟩
theorem two_new (w:World) (c1 c2:Array Value) (t1 t2:TypeId):∃ W,(w.alloc (.cells c1 t1)).alloc (.cells c2 t2)=W∧Box W w.heap.size 0 c1.toList∧Box W (w.heap.size+1) 0 c2.toList∧Below w.heap.size w W∧W.heap.size=w.heap.size+1+1:=by
 have z1:(w.alloc (.cells c1 t1)).heap.size=w.heap.size+1:=by simp
 have b1:=(Below.refl w.heap.size w).alloc (Nat.le_refl _) (.cells c1 t1);have b2:=(Below.refl (w.alloc (.cells c1 t1)).heap.size _).alloc (Nat.le_refl _) (.cells c2 t2);have x1:=Box.new w c1 t1;have x2:=Box.new (w.alloc (.cells c1 t1)) c2 t2;rw [z1] at b2 x2;exact ⟨_,rfl,x1.below b2 (by omega),x2,b1.trans (b2.mono (by omega)),by simp⟩
theorem bodyLen_all:∀ {l:List UInt8},l.all bodyB=true→bodyLen l=l.length
  | [],_=>rfl
  | c::l,h=>by
    rw [List.all_cons,Bool.and_eq_true] at h;rw [bodyLen,if_pos h.1,bodyLen_all h.2,List.length_cons]
theorem all_bodyLen:∀ {l:List UInt8},bodyLen l=l.length→l.all bodyB=true
  | [],_=>rfl
  | c::l,h=>by
    rw [bodyLen] at h;split at h
    · rename_i hc
      rw [List.length_cons] at h;rw [List.all_cons,hc,all_bodyLen (by omega)];rfl
    · rw [List.length_cons] at h
      omega
theorem alpha_past {c:UInt8} {l:List UInt8} (h:alphaB c=true):past (c::l)=(true,c::l):=by
  have hc:¬ (c=32∨c=10∨c=9)∧(c==47)=false∧(c==40)=false:=by
    refine ⟨?_,?_,?_⟩
    · rintro (rfl|rfl|rfl)<;>exact absurd h (by decide)
    · rw [beq_eq_false_iff_ne];rintro rfl;exact absurd h (by decide)
    · rw [beq_eq_false_iff_ne];rintro rfl;exact absurd h (by decide)
  have t1:two (c::l) 47 47=false:=by cases l<;>simp [two,hc.2.1]
  have t2:two (c::l) 40 42=false:=by cases l<;>simp [two,hc.2.2]
  unfold past;rw [List.length_cons,pastF,if_neg hc.1,t1,t2];simp
theorem nm_sgn {s:Str} (h:nmB s=true):past s=(true,s)∧s≠[]∧sgn s=(0,1,0,s.length)∧s.length≤16:=by
  cases s with
  | nil=>exact absurd h (by decide)
  | cons c l=>
    simp only [nmB,Bool.and_eq_true,decide_eq_true_eq,Bool.not_eq_true'] at h;obtain ⟨h1,h2,h3,h4⟩:=h;have hb:=bodyLen_all h2;refine ⟨alpha_past h1,by simp,?_,h3⟩;rw [←hb];exact sgn_name h1 (by rw [hb,List.take_length];exact h4) (by omega)
theorem sgn_nm {s:Str} {v n:Nat} (h:sgn s=(0,1,v,n)) (hn:n=s.length):nmB s=true:=by
  cases s with
  | nil=>simp [sgn] at h
  | cons c l=>
    unfold sgn at h;simp only at h;split at h
    · rename_i hc
      split at h
      · injection h with _ h
        injection h with h _
        exact absurd h (by decide)
      · rename_i hw
        split at h
        · injection h with h _
          exact absurd h (by decide)
        · rename_i h16
          injection h with _ h
          injection h with _ h
          injection h with _ h
          rw [hn] at h;simp only [nmB,Bool.and_eq_true,decide_eq_true_eq,Bool.not_eq_true'];rw [h,List.take_length] at hw;exact ⟨hc,all_bodyLen h,by omega,by simpa using hw⟩
    · split at h
      · split at h
        · injection h with _ h
          injection h with h _
          exact absurd h (by decide)
        · rename_i hx
          injection h with h _
          exact absurd h hx
      · split at h
        · injection h with h _
          exact absurd h (by decide)
        · injection h with _ h
          injection h with h _
          exact absurd h (by decide)
def oneNm (M:List Tk) (s:Str):Bool:=match M with
  | [t,_]=>t.kind==1&&t.text==s
  | _=>false
theorem one_nm (s:Str):oneNm (lex s).2.1 s=nmB s:=by
  unfold lex;by_cases hl:16384<s.length
  · rw [if_pos hl]
    cases h:nmB s with
    | false=>rfl
    | true=>have:=(nm_sgn h).2.2.2;omega
  rw [if_neg hl];cases h:nmB s with
  | true=>
    obtain ⟨h1,h2,h3,h4⟩:=nm_sgn h;have hne:s.length≠0:=fun e=>h2 (List.eq_nil_of_length_eq_zero e)
    obtain ⟨n,hn⟩:∃ n,s.length=n+1:=⟨s.length-1,by omega⟩;rw [lexF_tok (by rw [h1]) (by rw [h1];exact h2) (by rw [h1,h3])];rw [h1];simp only [h3];rw [List.drop_length,List.take_length,hn,lexF_end (by rfl) (by rfl)];simp [oneNm]
  | false=>
    rw [show oneNm (lexF s (s.length+1) s []).2.1 s=false from ?_];cases hp:(past s).1 with
    | false=>rw [lexF_bad hp];rfl
    | true=>
      by_cases he:(past s).2=[]
      · rw [lexF_end hp he];rfl
      by_cases hx:(sgn (past s).2).1=0
      rotate_left
      · rw [lexF_err hp he hx];rfl
      rw [lexF_tok hp he hx];obtain ⟨q,hq⟩:∃ q,(past s).2=q:=⟨_,rfl⟩;have hsuf:q <:+ s:=hq ▸ pastF_suf (s.length+1) s;rw [hq] at hx ⊢;obtain ⟨⟨e,k,v,n⟩,hs⟩:∃ r,sgn q=r:=⟨_,rfl⟩;rw [hs] at hx ⊢;simp only at hx ⊢;subst hx;have key:∀ (f:Nat) (r:Str) (acc:List Tk),(lexF s f r acc).2.1=[]∨∃ M',(lexF s f r acc).2.1=acc++M':=by
        intro f;induction f with
        | zero=>intro r acc;exact .inl rfl
        | succ f ih=>
          intro r acc;cases hp:(past r).1 with
          | false=>rw [lexF_bad hp];exact .inl rfl
          | true=>
            by_cases he:(past r).2=[]
            · rw [lexF_end hp he];exact .inr ⟨_,rfl⟩
            by_cases hx:(sgn (past r).2).1=0
            rotate_left
            · rw [lexF_err hp he hx];exact .inl rfl
            rw [lexF_tok hp he hx];rcases ih ((past r).2.drop (sgn (past r).2).2.2.2) (acc++[⟨(sgn (past r).2).2.1,(past r).2.take (sgn (past r).2).2.2.2,(sgn (past r).2).2.2.1,(plAt s (past r).2).1,(plAt s (past r).2).2⟩]) with h|⟨M',h⟩
            · exact .inl h
            · exact .inr ⟨_,by rw [h,List.append_assoc]⟩
      rcases key s.length (q.drop n) ([]++[⟨k,q.take n,v,(plAt s q).1,(plAt s q).2⟩]) with h'|⟨M',h'⟩
      · rw [h'];rfl
      · rw [h',List.nil_append,List.singleton_append]
        cases M' with
        | nil=>rfl
        | cons t M'=>
          cases M' with
          | cons _ _=>rfl
          | nil=>
            simp only [oneNm];by_cases hk:k=1
            rotate_left
            · have:(k==1)=false:=by simpa using hk
              rw [this];rfl
            by_cases ht:q.take n=s
            rotate_left
            · have:(q.take n==s)=false:=by simpa using ht
              rw [this,Bool.and_false]
            exfalso
            have h1:=hsuf.length_le;have h2:(q.take n).length=s.length:=by rw [ht]
            rw [List.length_take] at h2;have hqs:q=s:=hsuf.eq_of_length (by omega);subst hqs hk;have h3:n=q.length:=by
              have:=sgn_len hs;omega
            rw [sgn_nm hs h3] at h;exact absurd h (by decide)
theorem one_len {M:List Tk} {s:Str} (h:M.length≠2):oneNm M s=false:=by
  match M,h with
  | [],_=>rfl
  | [_],_=>rfl
  | [_,_],h=>exact absurd rfl h
  | _::_::_::_,_=>rfl
theorem lex_free (s:ByteArray) (w:World) (hM:MaxL w):Calls Tryz.prog 23 #[.string s] w (GotB s w):=by
  by_cases hlong:16384<s.size
  rotate_left
  · exact lex_any s (by omega) w hM
  have x4:=Box.new w #[.int .i64 0,.string ⟨#[]⟩,.int .i64 0,.int .i64 0,.int .i64 0] 34;have x5:=Box.new (w.alloc (.cells #[.int .i64 0,.string ⟨#[]⟩,.int .i64 0,.int .i64 0,.int .i64 0] 34)) #[.string s,.int .i64 1,.int .i64 1] 95;obtain ⟨w5,e5,y4,y5,b5,z5⟩:=two_new w #[.int .i64 0,.string ⟨#[]⟩,.int .i64 0,.int .i64 0,.int .i64 0] #[.string s,.int .i64 1,.int .i64 1] 34 95;have X5:=qh y4;have R5:=qh (rdr_start y5);have B5:=qh b5;have Z5:=qh z5;clear x4 x5 y4 y5 b5 z5 hM;have HL:Hid (lex s.data.toList=(13,[],atP (1,1))):=qh (by
    unfold lex;rw [size_len,if_pos hlong])
  have hlz:(16384:Int)<s.size:=by omega
  clear hlong;go_enter Tryz.func23,Tryz.ntmps23
  go_upto_region 2 with (fail)
  clear e5;go_wp2_with (go_at_call 44;fail)
  with_reducible refine (rplace_any s 0 (w.heap.size+1) w5 R5.out).mono ?_
  rintro e w6 ⟨rfl,hb⟩;have X6:=qh (X5.out.below hb (by have:=Z5.out;omega));have B6:=btr B5 hb;clear hb;have ⟨c0,f0,c1,f1,c2,f2,c3,f3,c4,f4,_⟩:=X6.out;go_wp2_with fail
  obtain ⟨y,_,hB2⟩:=Box.puts (us:=[.int .i64 0,.string ⟨#[]⟩,.int .i64 0,.int .i64 (plS s 0).1,.int .i64 (plS s 0).2]) X6.out rfl;refine bodyPost_ret (results_ttc rfl rfl (run_loadVar_mid _ w.heap.size 0 34 _ _ y.range rfl rfl (by kernel_rfl))) rfl ?_;refine ⟨none,0,0,?_,?_,B6.out.trans (hB2 _ (Nat.le_refl _)),fun q e=>by cases e⟩
  · rw [HL.out];rfl
  · rw [HL.out];exact Rd.none_ _ _ _ _
theorem isName_any (s:ByteArray) (w:World) (hM:MaxL w):Calls Tryz.prog 31 #[.string s] w fun e w'=>e=.returned (.bool (nmB s.data.toList))∧Below w.heap.size w w':=by
  have LX:=qh (lex_free s w hM);clear hM;rw [←one_nm];go_enter Tryz.func31,Tryz.ntmps31
  go_wp2_with (go_at_call 23;fail)
  refine LX.out.mono ?_;rintro e w1 ⟨A,n,c,rfl,hR,hb,_⟩;clear LX;obtain ⟨R,hLR⟩:∃ R,lex s.data.toList=R:=⟨_,rfl⟩;rw [hLR] at hR ⊢;obtain ⟨er,M,⟨pk,pt,pn,pl,pc⟩⟩:=R;have HLR:=qh (show (lex s.data.toList).2.1=M by rw [hLR]);clear hLR;have hR:rr.Rd tC 5 w1 w1.heap.size A n c M:=hR;rw [show (tC ⟨pk,pt,pn,pl,pc⟩).toArray=#[.int .i64 pk,.string ⟨pt.toArray⟩,.int .i64 pn,.int .i64 pl,.int .i64 pc] from rfl];have hn:=hR.1;have RX:=qh hR;have B1:=qh hb;clear hb;by_cases h2:n=2
  rotate_left
  · have hz:((n:Int)==2)=false:=by rw [beq_eq_false_iff_ne];omega
    have HF:=qh (one_len (s:=s.data.toList) (show M.length≠2 by omega));have B2:=qh (B1.out.trans (((Below.refl w1.heap.size w1).alloc (Nat.le_refl _) (.cells #[.int .i64 pk,.string ⟨pt.toArray⟩,.int .i64 pn,.int .i64 pl,.int .i64 pc] 34)).mono B1.out.size));clear hR hn h2;go_wp2_with fail
    go_ret
    exact ⟨ret_bool (by rw [HLR.out];exact HF.out.symm),B2.out⟩
  subst h2
  match M,hn,RX,HLR with
  | [t,u],hn,RX,HLR=>
    obtain ⟨b1,o1,x,rfl,hb1,hp,hc1⟩:=RX.out.at (i:=0) (by omega);obtain rfl:t=x:=by simpa using hp
    obtain ⟨tk,tt,tn,tl,tcl⟩:=t;have a0:=hc1 0 _ rfl;have a1:=hc1 1 _ rfl;simp only [Nat.zero_mul,Nat.add_zero] at a0 a1;have hz:((2:Int)==2)=true:=rfl;have hbb:=(Below.refl w1.heap.size w1).alloc (Nat.le_refl _) (.cells #[.int .i64 pk,.string ⟨pt.toArray⟩,.int .i64 pn,.int .i64 pl,.int .i64 pc] 34);have B2:=btr B1 hbb;have d0:=(hbb.cell (p:=⟨b1,o1,none⟩) hb1).trans a0;have d1:=(hbb.cell (p:=⟨b1,o1+1,none⟩) hb1).trans a1;obtain ⟨xs,hxs⟩:∃ z,(⟨tt.toArray⟩:ByteArray)=z:=⟨_,rfl⟩;obtain ⟨v1,hv1⟩:∃ u,(tk==1)=u:=⟨_,rfl⟩;obtain ⟨v2,hv2⟩:∃ u,(tt==s.data.toList)=u:=⟨_,rfl⟩;have t3:(xs.toList==s.toList)=v2:=by rw [←hxs,ByteArray.toList_eq,ByteArray.toList_eq];exact hv2
    have HF:=qh (show oneNm [⟨tk,tt,tn,tl,tcl⟩,u] s.data.toList=(v1&&v2) by simp only [oneNm];rw [hv1,hv2]);try simp only at a0 a1 d0 d1
    rw [hxs] at a1 d1;clear hR hc1 hp hbb hv2 hxs hb1 RX;cases v1
    · go_wp2_with fail
      go_ret
      exact ⟨ret_bool (by rw [HLR.out,HF.out];rfl),B2.out⟩
    · go_wp2_with fail
      go_ret
      exact ⟨ret_bool (by rw [HLR.out,HF.out];rfl),B2.out⟩
end sh
end Go.Proofs.YtdefgghhkknnpaaGreatDoor
