import Derived.Test.YtoijpogadkogcaaGreatQc
import Derived.Test.YtoijpogadkogcaaGreatQa
import Derived.WalkKit
import Derived.WalkSpells
import Derived.WalkLawsBesides
import Derived.Deep.QuietTactic
import Derived.BigQuiet
import Derived.Deep.RegionWith
namespace Go.Proofs.YtoijpogadkogcaaGreat
open Go.RowKit
set_option maxRecDepth 100000
inductive DN
 | conn | mm | mt | ctl | ring | ev | inn | blk | blkb
 | fr (j:Nat) | st (n:Nat) | hdr (n:Nat) | block (n:Nat) | data (n:Nat) | unread (n:Nat)
 deriving DecidableEq
structure DSV where
 vH:Value:=.slice none 0 0
 vB:Value:=.slice none 0 0
 vD:Value:=.slice none 0 0
 vU:Value:=.slice none 0 0
structure DV where
 gm:Nat
 gt:Nat
 esM:Array MapEntry:=#[]
 esT:Array MapEntry:=#[]
 ckM:Nat:=0
 ckT:Nat:=0
 vC:Value:=.slice none 0 0
 vR:Value:=.slice none 0 0
 vE:Value:=.slice none 0 0
 vI:Value:=.slice none 0 0
 vK:Value:=.slice none 0 0
 gb:Nat:=0
 fr:List Value:=[]
 b:Nat:=0
 rp:Res:=.none
 ptr:Nat->Nat:=λ_=>0
 sv:Nat->DSV:=λ_ => {}
def Ds.fm(d:Ds):Int:=if d.client then 1 else 2
def Ds.ft(d:Ds):Int:=if d.client then 2 else 1
def zgo(d:Ds)(v:DV):Value:=match d.coming with
 | none => .pointer none
 | some _ => .pointer (some ⟨v.gb,0,none⟩)
def zba(g:Nat)(s:DS)(v:DSV):Array Value :=
 #[.int .i64 (s.id:Int),.pointer (some ⟨g,if s.mine then 0 else 5,none⟩),.int .i64 (s.state:Int),.int .i64 s.from_,.int .i64 s.to_,v.vH,v.vB,v.vD,.bool s.ends,v.vU,.int .i64 (s.code:Int)]
def zbc(d:Ds)(v:DV):Array Value :=
 #[.int .i64 d.fm,.int .i64 (d.mLast:Int),.int .i64 (d.mMost:Int),.int .i64 d.mCount,.map (some v.gm),.int .i64 d.ft,.int .i64 (d.tLast:Int),.int .i64 (d.tMost:Int),.int .i64 d.tCount,.map (some v.gt),
  .int .i64 d.from_,.int .i64 d.to_,v.vC,v.vR,v.vE,v.vI,zgo d v,.int .u16 (d.pings:Int),.bool d.leaving,.bool d.peerLeaves,.bool d.failed]
def zcv:List (Nat×Nat×Nat×Bytes)->List Value->List Value
 | (k,f,i,_)::r,v::vs => .int .i64 (k:Int) :: .int .i64 (f:Int) :: .int .i64 (i:Int)::v::zcv r vs
 | _,_=>[]
def zcf:List (Nat×Nat×Nat)->List Value
 | []=>[]
 | (k,i,c)::r => .int .i64 (k:Int) :: .int .i64 (i:Int) :: .int .i64 (c:Int)::zcf r
def zat(l:List Nat)(ptr:Nat->Nat):List Value:=l.map λn=>Value.pointer (some ⟨ptr n,0,none⟩)
theorem zvh(l m:List (Nat×Nat×Nat)):zcf (l++m)=zcf l++zcf m:=by
 induction l with
 | nil=>rfl
 | cons p l ih=>obtain⟨a,b,c⟩:=p;show _::_::_::zcf (l++m)=_;rw[ih];rfl
theorem zvi(l m:List (Nat×Nat×Nat×Bytes))(vs us:List Value)(h:vs.length=l.length):zcv (l++m) (vs++us)=zcv l vs++zcv m us:=by
 induction l generalizing vs with
 | nil=>cases vs with
  | nil=>rfl
  | cons v vs=>simp at h
 | cons p l ih =>
  cases vs with
  | nil=>simp at h
  | cons v vs=>obtain⟨a,b,c,e⟩:=p;show _::_::_::_::zcv (l++m) (vs++us)=_;rw[ih vs (by simpa using h)];rfl
theorem zyl(l:List (Nat×Nat×Nat×Bytes))(vs:List Value)(h:vs.length=l.length):(zcv l vs).drop 4=zcv (l.drop 1) (vs.drop 1):=by
 cases l with
 | nil=>cases vs with
  | nil=>rfl
  | cons v vs=>simp at h
 | cons p l=>cases vs with
  | nil=>simp at h
  | cons v vs=>obtain⟨a,b,c,e⟩:=p;rfl
def Ds.mapF(d:Ds)(m:Bool)(ptr:Nat->Nat)(a:Int):Option Nat:=if 0<=a then (d.held m a.toNat).map (λ_=>ptr a.toNat) else none
def zao(g:Nat)(d:Ds)(v:DV):DN->Res
 | .conn => .obj g (.cells (zbc d v) 105 (0,0))
 | .mm => .obj v.gm (.map v.esM v.ckM)
 | .mt => .obj v.gt (.map v.esT v.ckT)
 | .ctl => .row 111 4 v.vC d.ctl.length (zcv d.ctl v.fr)
 | .ring => .row 87 1 v.vR d.ring.length (zat d.ring v.ptr)
 | .ev => .row 109 3 v.vE d.ev.length (zcf d.ev)
 | .inn=>v.rp
 | .blk=>match d.coming with
  | none => .none
  | some (i,e,_) => .obj v.gb (.cells #[.int .i64 (i:Int),.bool e,v.vK] 158 (0,0))
 | .blkb=>match d.coming with
  | none => .none
  | some (_,_,b) => .row 5 1 v.vK b.length (zab b)
 | .fr j=>if v.b<=j then (match d.ctl[j-v.b]? with
  | none => .none
  | some f => .row 5 1 (v.fr.getD (j-v.b) (.slice none 0 0)) f.2.2.2.length (zab f.2.2.2)) else .none
 | .st n=>match d.str n with
  | none => .none
  | some s => .obj (v.ptr n) (.cells (zba g s (v.sv n)) 94 (0,0))
 | .hdr n=>match d.str n with
  | none => .none
  | some s => .row 122 2 (v.sv n).vH s.headers.length (zap s.headers)
 | .block n=>match d.str n with
  | none => .none
  | some s => .row 5 1 (v.sv n).vB s.block.length (zab s.block)
 | .data n=>match d.str n with
  | none => .none
  | some s => .row 5 1 (v.sv n).vD s.data.length (zab s.data)
 | .unread n=>match d.str n with
  | none => .none
  | some s => .row 5 1 (v.sv n).vU s.unread.length (zab s.unread)
structure Ds.Wf (d:Ds):Prop where
 ids:∀ n s,d.str n=some s->s.id=n
 rings:∀ n,n∈d.ring -> ∃ s,d.str n=some s
structure zaa {N:Type} (own:N->Res) (nm:DN->N) (g:Nat) (d:Ds) (v:DV):Prop where
 inj:∀ a b,nm a=nm b->a=b
 res:∀ x,own (nm x)=zao g d v x
 frl:v.fr.length=d.ctl.length
 mapM:zds (d.mapF true v.ptr) v.esM
 mapT:zds (d.mapF false v.ptr) v.esT
 wf:d.Wf
 nilB:∀ n s,d.str n=some s->s.block=[]->(v.sv n).vB = .slice none 0 0
 nilH:∀ n s,d.str n=some s->s.headers=[]->(v.sv n).vH = .slice none 0 0
def znd(d:Ds)(v:DV):Prop:=d.failed=false->v.rp = .row 5 1 v.vI d.inn.length (zab d.inn)
def zai{N:Type}(nm:DN->N)(own own':N->Res):Prop:=∀ n,(∀ x,n≠nm x)->own' n=own n
theorem zai.refl{N:Type}(nm:DN->N)(own:N->Res):zai nm own own:=λ_ _=>rfl
theorem zai.trans{N:Type}{nm:DN->N}{a b c:N->Res}(h:zai nm a b)(k:zai nm b c):zai nm a c:=λn hn=>(k n hn).trans (h n hn)
theorem zai.upd{N:Type}{nm:DN->N}{a b:N->Res}(h:zai nm a b)(x:DN)(r:Res):zai nm a (upd b (nm x) r):=λn hn=>(zac b r (hn x)).trans (h n hn)
theorem zad{N:Type}{nm:DN->N}(hi:∀ a b,nm a=nm b->a=b)(own:N->Res)(a b:DN)(r:Res):upd own (nm a) r (nm b)=if b=a then r else own (nm b):=by
 by_cases e:b=a
 ·subst e;rw[zag,if_pos rfl]
 ·rw[zac own r (λh=>e (hi b a h)),if_neg e]
def zaf{N:Type}(nm:DN->N)(g:Nat)(wb:World)(own:N->Res)(d:Ds)(v:DV)(w':World)(d':Ds):Prop :=
 ∃ own' v',Sep wb w' own'/\zaa own' nm g d' v'/\zai nm own own'/\v'.rp=v.rp/\(d'.failed=false->v'.vI=v.vI) /\ ∀ n,(d.str n).isSome=true->v'.ptr n=v.ptr n/\(d'.str n).isSome=true
theorem zaf.trans{N:Type}{nm:DN->N}{g:Nat}{wb:World}{own:N->Res}{d:Ds}{v:DV}{own1:N->Res}{d1:Ds}{v1:DV}{w':World}{d':Ds}
  (h:zaf nm g wb own1 d1 v1 w' d') (hs:zai nm own own1) (hr:v1.rp=v.rp) (hi:d'.failed=false->v1.vI=v.vI) (hp:∀ n,(d.str n).isSome=true->v1.ptr n=v.ptr n/\(d1.str n).isSome=true):zaf nm g wb own d v w' d':=by
 obtain⟨own',v',h1,h2,h3,h4,h5,h6⟩:=h;exact⟨own',v',h1,h2,hs.trans h3,h4.trans hr,λhf=>(h5 hf).trans (hi hf),λn hn=>⟨(h6 n (hp n hn).2).1.trans (hp n hn).1,(h6 n (hp n hn).2).2⟩⟩
section
variable {N:Type} {own:N->Res} {nm:DN->N} {g:Nat} {d:Ds} {v:DV} {wb w:World}
theorem zaa.conn(h:zaa own nm g d v):own (nm .conn) = .obj g (.cells (zbc d v) 105 (0,0)):=h.res .conn
theorem zaa.cc(h:zaa own nm g d v)(hs:Sep wb w own)(k:Nat):w.cell? ⟨g,k,none⟩=(zbc d v)[k]?:=hs.cell h.conn k
theorem zaa.thaw(h:zaa own nm g d v)(hs:Sep wb w own)(k:Nat):w.frozen? ⟨g,k,none⟩=false:=hs.thaw h.conn k
theorem zaa.c0(h:zaa own nm g d v)(hs:Sep wb w own):w.cell? ⟨g,0,none⟩=some (.int .i64 d.fm):=h.cc hs 0
theorem zaa.c1(h:zaa own nm g d v)(hs:Sep wb w own):w.cell? ⟨g,1,none⟩=some (.int .i64 (d.mLast:Int)):=h.cc hs 1
theorem zaa.c2(h:zaa own nm g d v)(hs:Sep wb w own):w.cell? ⟨g,2,none⟩=some (.int .i64 (d.mMost:Int)):=h.cc hs 2
theorem zaa.c3(h:zaa own nm g d v)(hs:Sep wb w own):w.cell? ⟨g,3,none⟩=some (.int .i64 d.mCount):=h.cc hs 3
theorem zaa.c4(h:zaa own nm g d v)(hs:Sep wb w own):w.cell? ⟨g,4,none⟩=some (.map (some v.gm)):=h.cc hs 4
theorem zaa.c5(h:zaa own nm g d v)(hs:Sep wb w own):w.cell? ⟨g,5,none⟩=some (.int .i64 d.ft):=h.cc hs 5
theorem zaa.c6(h:zaa own nm g d v)(hs:Sep wb w own):w.cell? ⟨g,6,none⟩=some (.int .i64 (d.tLast:Int)):=h.cc hs 6
theorem zaa.c7(h:zaa own nm g d v)(hs:Sep wb w own):w.cell? ⟨g,7,none⟩=some (.int .i64 (d.tMost:Int)):=h.cc hs 7
theorem zaa.c8(h:zaa own nm g d v)(hs:Sep wb w own):w.cell? ⟨g,8,none⟩=some (.int .i64 d.tCount):=h.cc hs 8
theorem zaa.c9(h:zaa own nm g d v)(hs:Sep wb w own):w.cell? ⟨g,9,none⟩=some (.map (some v.gt)):=h.cc hs 9
theorem zaa.c10(h:zaa own nm g d v)(hs:Sep wb w own):w.cell? ⟨g,10,none⟩=some (.int .i64 d.from_):=h.cc hs 10
theorem zaa.c11(h:zaa own nm g d v)(hs:Sep wb w own):w.cell? ⟨g,11,none⟩=some (.int .i64 d.to_):=h.cc hs 11
theorem zaa.c12(h:zaa own nm g d v)(hs:Sep wb w own):w.cell? ⟨g,12,none⟩=some v.vC:=h.cc hs 12
theorem zaa.c13(h:zaa own nm g d v)(hs:Sep wb w own):w.cell? ⟨g,13,none⟩=some v.vR:=h.cc hs 13
theorem zaa.c14(h:zaa own nm g d v)(hs:Sep wb w own):w.cell? ⟨g,14,none⟩=some v.vE:=h.cc hs 14
theorem zaa.c15(h:zaa own nm g d v)(hs:Sep wb w own):w.cell? ⟨g,15,none⟩=some v.vI:=h.cc hs 15
theorem zaa.c16(h:zaa own nm g d v)(hs:Sep wb w own):w.cell? ⟨g,16,none⟩=some (zgo d v):=h.cc hs 16
theorem zaa.c18(h:zaa own nm g d v)(hs:Sep wb w own):w.cell? ⟨g,18,none⟩=some (.bool d.leaving):=h.cc hs 18
theorem zaa.c19(h:zaa own nm g d v)(hs:Sep wb w own):w.cell? ⟨g,19,none⟩=some (.bool d.peerLeaves):=h.cc hs 19
theorem zaa.c20(h:zaa own nm g d v)(hs:Sep wb w own):w.cell? ⟨g,20,none⟩=some (.bool d.failed):=h.cc hs 20
theorem zaa.st(h:zaa own nm g d v){n:Nat}{s:DS}(hn:d.str n=some s):own (nm (.st n)) = .obj (v.ptr n) (.cells (zba g s (v.sv n)) 94 (0,0)):=by rw[h.res];simp only[zao,hn]
theorem zaa.sc(h:zaa own nm g d v)(hs:Sep wb w own){n:Nat}{s:DS}(hn:d.str n=some s)(k:Nat):w.cell? ⟨v.ptr n,k,none⟩=(zba g s (v.sv n))[k]?:=hs.cell (h.st hn) k
theorem zaa.sthaw(h:zaa own nm g d v)(hs:Sep wb w own){n:Nat}{s:DS}(hn:d.str n=some s)(k:Nat):w.frozen? ⟨v.ptr n,k,none⟩=false:=hs.thaw (h.st hn) k
theorem zaa.s0(h:zaa own nm g d v)(hs:Sep wb w own){n:Nat}{s:DS}(hn:d.str n=some s):w.cell? ⟨v.ptr n,0,none⟩=some (.int .i64 (s.id:Int)):=h.sc hs hn 0
theorem zaa.s1(h:zaa own nm g d v)(hs:Sep wb w own){n:Nat}{s:DS}(hn:d.str n=some s):w.cell? ⟨v.ptr n,1,none⟩=some (.pointer (some ⟨g,if s.mine then 0 else 5,none⟩)):=h.sc hs hn 1
theorem zaa.s2(h:zaa own nm g d v)(hs:Sep wb w own){n:Nat}{s:DS}(hn:d.str n=some s):w.cell? ⟨v.ptr n,2,none⟩=some (.int .i64 (s.state:Int)):=h.sc hs hn 2
theorem zaa.s3(h:zaa own nm g d v)(hs:Sep wb w own){n:Nat}{s:DS}(hn:d.str n=some s):w.cell? ⟨v.ptr n,3,none⟩=some (.int .i64 s.from_):=h.sc hs hn 3
theorem zaa.s4(h:zaa own nm g d v)(hs:Sep wb w own){n:Nat}{s:DS}(hn:d.str n=some s):w.cell? ⟨v.ptr n,4,none⟩=some (.int .i64 s.to_):=h.sc hs hn 4
theorem zaa.s5(h:zaa own nm g d v)(hs:Sep wb w own){n:Nat}{s:DS}(hn:d.str n=some s):w.cell? ⟨v.ptr n,5,none⟩=some (v.sv n).vH:=h.sc hs hn 5
theorem zaa.s6(h:zaa own nm g d v)(hs:Sep wb w own){n:Nat}{s:DS}(hn:d.str n=some s):w.cell? ⟨v.ptr n,6,none⟩=some (v.sv n).vB:=h.sc hs hn 6
theorem zaa.s7(h:zaa own nm g d v)(hs:Sep wb w own){n:Nat}{s:DS}(hn:d.str n=some s):w.cell? ⟨v.ptr n,7,none⟩=some (v.sv n).vD:=h.sc hs hn 7
theorem zaa.s8(h:zaa own nm g d v)(hs:Sep wb w own){n:Nat}{s:DS}(hn:d.str n=some s):w.cell? ⟨v.ptr n,8,none⟩=some (.bool s.ends):=h.sc hs hn 8
theorem zaa.s9(h:zaa own nm g d v)(hs:Sep wb w own){n:Nat}{s:DS}(hn:d.str n=some s):w.cell? ⟨v.ptr n,9,none⟩=some (v.sv n).vU:=h.sc hs hn 9
theorem zaa.s10(h:zaa own nm g d v)(hs:Sep wb w own){n:Nat}{s:DS}(hn:d.str n=some s):w.cell? ⟨v.ptr n,10,none⟩=some (.int .i64 (s.code:Int)):=h.sc hs hn 10
theorem zaa.rowC(h:zaa own nm g d v)(hs:Sep wb w own):OwnAt w 111 4 v.vC d.ctl.length (zcv d.ctl v.fr):=hs.get (h.res .ctl)
theorem zaa.rowR(h:zaa own nm g d v)(hs:Sep wb w own):OwnAt w 87 1 v.vR d.ring.length (zat d.ring v.ptr):=hs.get (h.res .ring)
theorem zaa.rowE(h:zaa own nm g d v)(hs:Sep wb w own):OwnAt w 109 3 v.vE d.ev.length (zcf d.ev):=hs.get (h.res .ev)
theorem zaa.hdr(h:zaa own nm g d v){n:Nat}{s:DS}(hn:d.str n=some s):own (nm (.hdr n)) = .row 122 2 (v.sv n).vH s.headers.length (zap s.headers):=by rw[h.res];simp only[zao,hn]
theorem zaa.block(h:zaa own nm g d v){n:Nat}{s:DS}(hn:d.str n=some s):own (nm (.block n)) = .row 5 1 (v.sv n).vB s.block.length (zab s.block):=by rw[h.res];simp only[zao,hn]
theorem zaa.data(h:zaa own nm g d v){n:Nat}{s:DS}(hn:d.str n=some s):own (nm (.data n)) = .row 5 1 (v.sv n).vD s.data.length (zab s.data):=by rw[h.res];simp only[zao,hn]
theorem zaa.unread(h:zaa own nm g d v){n:Nat}{s:DS}(hn:d.str n=some s):own (nm (.unread n)) = .row 5 1 (v.sv n).vU s.unread.length (zab s.unread):=by rw[h.res];simp only[zao,hn]
theorem zaa.left(h:zaa own nm g d v)(hs:Sep wb w own):zaf nm g wb own d v w d:=⟨own,v,hs,h,zai.refl _ _,rfl,λ_=>rfl,λ_ hn=>⟨rfl,hn⟩⟩
theorem zgp{w:World}{T sz n:Nat}{x:Value}{xs:List Value}(h:OwnAt w T sz x n xs)(hn:0<n):∃ a o cap,x = .slice (some ⟨a,o,none⟩) n cap/\n<=cap:=by obtain⟨a,o,cap,h1,h2,_⟩:=h.at hn;exact⟨a,o,cap,h1,h2⟩
end
structure DS.Fits (s:DS):Prop where
 id:s.id<=65535
 state:s.state<=8
 from0:0<=s.from_
 from1:s.from_<=1000
 to0:0<=s.to_
 to1:s.to_+s.unread.length<=100
 headers:s.headers.length<=1000
 block:s.block.length<=1000
 data:s.data.length<=256
 code:s.code<=255
structure Ds.Fits (d:Ds) (m:Nat):Prop where
 mLast:d.mLast<=200
 tLast:d.tLast<=65535
 mMost:d.mMost<=255
 tMost:d.tMost<=255
 mCount0:-68719476736+1000*(m:Int)<=d.mCount
 mCount1:d.mCount+1000*(m:Int)<=68719476736
 tCount0:-68719476736+1000*(m:Int)<=d.tCount
 tCount1:d.tCount+1000*(m:Int)<=68719476736
 from0:0<=d.from_
 from1:d.from_<=1000
 to0:0<=d.to_
 to1:d.to_+1000*(m:Int)<=68719476736
 ctl:d.ctl.length+1000*m<=68719476736
 ring:d.ring.length+1000*m<=68719476736
 ev:d.ev.length+1000*m<=68719476736
 inn:d.inn.length<=68719476736
 pings:d.pings<=65535
 coming:∀ i e b,d.coming=some (i,e,b)->i<=65535/\b.length<=1064
 bodies:∀ f∈d.ctl,f.2.2.2.length<=1000/\f.2.2.1<=65535
 st:∀ n s,d.str n=some s->s.Fits
theorem Ds.Fits.mono{d:Ds}{m m':Nat}(h:d.Fits m)(hm:m'<=m):d.Fits m':=by
 have:=h.mCount0;have:=h.mCount1;have:=h.tCount0;have:=h.tCount1;have:=h.to1;have:=h.ctl;have:=h.ring;have:=h.ev
 constructor<;>first | exact h.mLast | exact h.tLast | exact h.mMost | exact h.tMost | exact h.from0 | exact h.from1 | exact h.to0 | exact h.inn | exact h.pings | exact h.coming | exact h.bodies | exact h.st | omega
theorem zkd(n:Int):IntKind.u8.wrap n=n%256:=by simp[IntKind.wrap,IntKind.bits,IntKind.signed]
theorem zhh(n:Int)(h1:-9223372036854775808<=n)(h2:n<=9223372036854775807):IntKind.i64.wrap n=n:=by simp only[IntKind.wrap,IntKind.bits,IntKind.signed,Bool.true_and,ge_iff_le,decide_eq_true_eq];split<;>omega
theorem zzbdd(n:Nat):((UInt8.ofNat n).toNat:Int)=(n:Int)%256:=by rw[UInt8.toNat_ofNat'];omega
theorem zmk(id:Int)(h1:-9223372036854775808<=id)(h2:id<=9223372036854775807):(Lit.int .i64 id).wf=true:=by simp[Lit.wf,IntKind.min,IntKind.max,IntKind.bits,IntKind.signed];omega
theorem nine(k:Nat)(h:k<=8):k=0\/k=1\/k=2\/k=3\/k=4\/k=5\/k=6\/k=7\/k=8:=by omega
set_option maxHeartbeats 1600000 in
theorem zby(k:Nat)(hk:k<=8)(w:World):Calls Tryz.prog 171 #[.int .i64 (k:Int)] w λe w'=>e = .returned (.bool (zav k))/\w'=w:=by
 rcases nine k hk with rfl|rfl|rfl|rfl|rfl|rfl|rfl|rfl|rfl
 all_goals
  go_enter Tryz.func171,Tryz.ntmps171
  go_wp2
  go_ret
  exact⟨rfl,rfl⟩
set_option maxHeartbeats 1600000 in
theorem ziw(k:Nat)(hk:k<=8)(w:World):Calls Tryz.prog 134 #[.int .i64 (k:Int)] w λe w'=>e = .returned (.bool (zaw k))/\w'=w:=by
 rcases nine k hk with rfl|rfl|rfl|rfl|rfl|rfl|rfl|rfl|rfl
 all_goals
  go_enter Tryz.func134,Tryz.ntmps134
  go_wp2
  go_ret
  exact⟨rfl,rfl⟩
set_option maxHeartbeats 1600000 in
theorem zlx(k:Nat)(hk:k<=8)(w:World):Calls Tryz.prog 41 #[.int .i64 (k:Int)] w λe w'=>e = .returned (.bool (zce k))/\w'=w:=by
 rcases nine k hk with rfl|rfl|rfl|rfl|rfl|rfl|rfl|rfl|rfl
 all_goals
  go_enter Tryz.func41,Tryz.ntmps41
  go_wp2
  go_ret
  exact⟨rfl,rfl⟩
set_option maxHeartbeats 1600000 in
theorem zfc(k:Nat)(hk:k<=8)(w:World):Calls Tryz.prog 40 #[.int .i64 (k:Int)] w λe w'=>e = .returned (.bool (zbx k))/\w'=w:=by
 rcases nine k hk with rfl|rfl|rfl|rfl|rfl|rfl|rfl|rfl|rfl
 all_goals
  go_enter Tryz.func40,Tryz.ntmps40
  go_wp2
  go_ret
  exact⟨rfl,rfl⟩
set_option maxHeartbeats 1600000 in
theorem zix(k:Nat)(hk:k<=8)(w:World):Calls Tryz.prog 86 #[.int .i64 (k:Int)] w λe w'=>e = .returned (.bool (zan k))/\w'=w:=by
 rcases nine k hk with rfl|rfl|rfl|rfl|rfl|rfl|rfl|rfl|rfl
 all_goals
  go_enter Tryz.func86,Tryz.ntmps86
  go_wp2
  go_ret
  exact⟨rfl,rfl⟩
def zfz(f id:Int):Bool:=decide (0<id) && decide (id%2=f%2)
set_option maxHeartbeats 1600000 in
theorem zly(g o:Nat)(f id:Int)(w:World)(hc:w.cell? ⟨g,o,none⟩=some (.int .i64 f))(hf:f=1\/f=2) :
  Calls Tryz.prog 81 #[.pointer (some ⟨g,o,none⟩),.int .i64 id] w λe w'=>e = .returned (.bool (zfz f id))/\w'=w:=by
 by_cases hp:0<id
 ·have HO:Hid (zfz f id=(id%2 == f%2)):=by
   show zfz f id=_
   unfold zfz;rw[Bool.eq_iff_iff];simp[hp]
  go_enter Tryz.func81,Tryz.ntmps81
  go_wp2
  go_ret
  exact⟨zcj HO.out.symm,rfl⟩
 ·have HO:Hid (zfz f id=false):=by
   show zfz f id=_
   unfold zfz;simp[hp]
  go_enter Tryz.func81,Tryz.ntmps81
  go_wp2
  go_ret
  exact⟨zcj (by rw[HO.out]),rfl⟩
set_option maxHeartbeats 1600000 in
theorem zti(g o:Nat)(f:Int)(l:Nat)(w:World)(hc:w.cell? ⟨g,o,none⟩=some (.int .i64 f))(hl:w.cell? ⟨g,o+1,none⟩=some (.int .i64 (l:Int)))(hm:l<=1000000) :
  Calls Tryz.prog 71 #[.pointer (some ⟨g,o,none⟩)] w λe w'=>e = .returned (.int .i64 (if l=0 then f else (l:Int)+2))/\w'=w:=by
 by_cases hp:l=0
 ·subst hp
  go_enter Tryz.func71,Tryz.ntmps71
  go_wp2
  go_ret
  exact⟨rfl,rfl⟩
 ·have hp':¬ ((l:Int)=0):=by omega
  rw[if_neg hp]
  go_enter Tryz.func71,Tryz.ntmps71
  go_wp2
  go_ret
  exact⟨rfl,rfl⟩
set_option maxHeartbeats 1600000 in
theorem ztj(g o:Nat)(k:Int)(m:Nat)(w:World)(hc:w.cell? ⟨g,o+3,none⟩=some (.int .i64 k))(hm:w.cell? ⟨g,o+2,none⟩=some (.int .i64 (m:Int))) :
  Calls Tryz.prog 72 #[.pointer (some ⟨g,o,none⟩)] w λe w'=>e = .returned (.bool (decide ((m:Int)<=k)))/\Ext w w':=by
 go_enter Tryz.func72,Tryz.ntmps72
 go_wp2
 go_region
 all_goals
  go_wp2
  go_ret
  exact⟨rfl,(Ext.refl w).drew⟩
def zcl(k:Nat):Array Value :=
 #[.int .i64 0,.pointer none,.int .i64 (k:Int),.int .i64 0,.int .i64 0,.slice none 0 0,.slice none 0 0,.slice none 0 0,.bool false,.slice none 0 0,.int .i64 0]
theorem Tryz.zeroPS(w:World):(zeroValue 87).run Tryz.prog w = .ok (.pointer none) w:=rfl
def zzbde(p:Nat)(f:Option Nat)(k:Nat)(w w':World):Prop :=
 (f=some p/\w'=w)\/(f=none/\p=w.heap.size/\w'=w.alloc (.cells (zcl k) 94))
set_option maxHeartbeats 1600000 in
theorem zqw(g o gm:Nat)(l:Nat)(id:Int)(es:Array MapEntry)(ck:Nat)(f:Int->Option Nat)(w:World)(hl:w.cell? ⟨g,o+1,none⟩=some (.int .i64 (l:Int)))(hm:w.cell? ⟨g,o+4,none⟩=some (.map (some gm)))
  (hb:w.heap[gm]? = some (.map es ck)) (F:zds f es) (h1:-9223372036854775808<=id) (h2:id<=9223372036854775807) :
  Calls Tryz.prog 82 #[.pointer (some ⟨g,o,none⟩),.int .i64 id] w λe w' => ∃ p,e = .returned (.pointer (some ⟨p,0,none⟩))/\zzbde p (if id<=(l:Int) then f id else none) (if id<=(l:Int) then 8 else 0) w w':=by
 by_cases hp:id<=(l:Int)
 ·have hp':¬ ((l:Int)<id):=by omega
  rw[if_pos hp,if_pos hp];have hk:=zmi (P:=Tryz.prog) (w:=w) Tryz.underlying96 Tryz.underlying3 Tryz.zeroPS hb F (a:=id) (zmk id h1 h2);cases hf:f id with
  | none =>
   rw[hf] at hk;simp only[ptrTo] at hk
   go_enter Tryz.func82,Tryz.ntmps82
   go_wp2
   go_ret
   exact⟨_,rfl,.inr ⟨rfl,rfl,rfl⟩⟩
  | some q =>
   rw[hf] at hk;simp only[ptrTo] at hk
   go_enter Tryz.func82,Tryz.ntmps82
   go_wp2
   go_ret
   exact⟨_,rfl,.inl ⟨rfl,rfl⟩⟩
 ·have hp':(l:Int)<id:=by omega
  rw[if_neg hp,if_neg hp]
  go_enter Tryz.func82,Tryz.ntmps82
  go_wp2
  go_ret
  exact⟨_,rfl,.inr ⟨rfl,rfl,rfl⟩⟩
theorem zaj(d:Ds)(n k:Nat)(s:DS):(d.setS n s).str k=if k=n then some s else d.str k:=rfl
theorem ztk{d d':Ds}(m:Bool)(ptr:Nat->Nat)(h:d'.str=d.str):d'.mapF m ptr=d.mapF m ptr:=by funext a;unfold Ds.mapF Ds.held;rw[h]
theorem zwd(d:Ds)(m:Bool)(ptr:Nat->Nat){n:Nat}{s s':DS}(hn:d.str n=some s)(hm:s'.mine=s.mine)(hk:s'.kept=s.kept):(d.setS n s').mapF m ptr=d.mapF m ptr:=by
 funext a
 unfold Ds.mapF Ds.held;split
 ·rw[zaj];by_cases e:a.toNat=n
  ·rw[if_pos e,e,hn];dsimp only;rw[hm,hk];split<;>rfl
  ·rw[if_neg e]
 ·rfl
theorem Ds.Wf.setS{d:Ds}(h:d.Wf)(n:Nat)(s:DS)(hs:s.id=n):(d.setS n s).Wf:=by
 refine⟨λk s' hk => ?_,λk hk => ?_⟩
 ·rw[zaj] at hk;by_cases e:k=n
  ·rw[if_pos e] at hk;cases hk;rw[hs,e]
  ·rw[if_neg e] at hk;exact h.ids k s' hk
 ·obtain⟨s',hs'⟩:=h.rings k hk;rw[zaj];by_cases e:k=n
  ·exact⟨s,by rw[if_pos e]⟩
  ·exact⟨s',by rw[if_neg e];exact hs'⟩
section
variable {N:Type} {own:N->Res} {nm:DN->N} {g:Nat} {d:Ds} {v:DV} {wb w:World}
theorem zaa.scal{d':Ds}(h:zaa own nm g d v)(e1:d'.ctl=d.ctl)(e2:d'.ring=d.ring)(e3:d'.ev=d.ev)(e4:d'.coming=d.coming)(e5:d'.str=d.str) :
  zaa (upd own (nm .conn) (.obj g (.cells (zbc d' v) 105 (0,0)))) nm g d' v:=by
 refine⟨h.inj,λx => ?_,by rw[e1];exact h.frl,by rw[ztk _ _ e5];exact h.mapM,by rw[ztk _ _ e5];exact h.mapT,⟨by rw[e5];exact h.wf.ids,by rw[e5,e2];exact h.wf.rings⟩,by rw[e5];exact h.nilB,by rw[e5];exact h.nilH⟩;rw[zad h.inj,h.res];cases x<;>simp only[zao,e1,e2,e3,e4,e5,reduceCtorEq,if_false,if_true]
theorem zaa.setEv(h:zaa own nm g d v)(r:List (Nat×Nat×Nat))(x:Value) :
  zaa (upd (upd own (nm .ev) (.row 109 3 x r.length (zcf r))) (nm .conn) (.obj g (.cells ((zbc d v).setIfInBounds 14 x) 105 (0,0)))) nm g { d with ev:=r } { v with vE:=x }:=by
 refine⟨h.inj,λy => ?_,h.frl,h.mapM,h.mapT,⟨h.wf.ids,h.wf.rings⟩,h.nilB,h.nilH⟩;rw[zad h.inj,zad h.inj,h.res];cases y<;>simp only[zao,reduceCtorEq,if_false,if_true]
 rfl
theorem zaa.setRing(h:zaa own nm g d v)(r:List Nat)(x:Value)(hr:∀ n∈r,∃ s,d.str n=some s) :
  zaa (upd (upd own (nm .ring) (.row 87 1 x r.length (zat r v.ptr))) (nm .conn) (.obj g (.cells ((zbc d v).setIfInBounds 13 x) 105 (0,0)))) nm g { d with ring:=r } { v with vR:=x }:=by
 refine⟨h.inj,λy => ?_,h.frl,h.mapM,h.mapT,⟨h.wf.ids,hr⟩,h.nilB,h.nilH⟩;rw[zad h.inj,zad h.inj,h.res];cases y<;>simp only[zao,reduceCtorEq,if_false,if_true]
 rfl
theorem zaa.pushCtl(h:zaa own nm g d v)(f:Nat×Nat×Nat×Bytes)(x y:Value) :
  zaa (upd (upd (upd own (nm (.fr (v.b+d.ctl.length))) (.row 5 1 y f.2.2.2.length (zab f.2.2.2))) (nm .ctl) (.row 111 4 x (d.ctl++[f]).length (zcv (d.ctl++[f]) (v.fr++[y])))) (nm .conn) (.obj g (.cells ((zbc d v).setIfInBounds 12 x) 105 (0,0)))) nm g { d with ctl:=d.ctl++[f] } { v with vC:=x,fr:=v.fr++[y] }:=by
 refine⟨h.inj,λz => ?_,by simp[h.frl],h.mapM,h.mapT,⟨h.wf.ids,h.wf.rings⟩,h.nilB,h.nilH⟩;rw[zad h.inj,zad h.inj,zad h.inj,h.res];cases z<;>simp only[zao,reduceCtorEq,if_false,if_true,DN.fr.injEq]
 ·rfl
 ·rename_i j
  by_cases e:j=v.b+d.ctl.length
  ·subst e;rw[if_pos rfl,if_pos (by omega),Nat.add_sub_cancel_left];rw[List.getElem?_append_right (Nat.le_refl _),Nat.sub_self];have e1:(v.fr++[y]).getD d.ctl.length (.slice none 0 0)=y:=by rw[<-h.frl];simp[List.getD_eq_getElem?_getD]
   rw[e1];rfl
  ·rw[if_neg e];by_cases hb:v.b<=j
   ·rw[if_pos hb,if_pos hb];by_cases hl:j-v.b<d.ctl.length
    ·rw[List.getElem?_append_left hl];have e1:(v.fr++[y]).getD (j-v.b) (.slice none 0 0)=v.fr.getD (j-v.b) (.slice none 0 0):=by simp[List.getD_eq_getElem?_getD,List.getElem?_append_left (show j-v.b<v.fr.length by rw[h.frl];exact hl)]
     rw[e1]
    ·rw[List.getElem?_eq_none (by omega),List.getElem?_eq_none (by simp;omega)]
   ·rw[if_neg hb,if_neg hb]
theorem zaa.popCtl(h:zaa own nm g d v)(x:Value) :
  zaa (upd (upd (upd own (nm (.fr v.b)) .none) (nm .ctl) (.row 111 4 x (d.ctl.drop 1).length (zcv (d.ctl.drop 1) (v.fr.drop 1)))) (nm .conn) (.obj g (.cells ((zbc d v).setIfInBounds 12 x) 105 (0,0)))) nm g { d with ctl:=d.ctl.drop 1 } { v with vC:=x,fr:=v.fr.drop 1,b:=v.b+1 }:=by
 refine⟨h.inj,λz => ?_,by simp[h.frl],h.mapM,h.mapT,⟨h.wf.ids,h.wf.rings⟩,h.nilB,h.nilH⟩;rw[zad h.inj,zad h.inj,zad h.inj,h.res];cases z<;>simp only[zao,reduceCtorEq,if_false,if_true,DN.fr.injEq]
 ·rfl
 ·rename_i j
  by_cases e:j=v.b
  ·subst e;rw[if_pos rfl,if_neg (by omega)]
  ·rw[if_neg e];by_cases hb:v.b+1<=j
   ·rw[if_pos hb,if_pos (by omega),List.getElem?_drop,show 1+(j-(v.b+1))=j-v.b by omega];have e1:(v.fr.drop 1).getD (j-(v.b+1)) (.slice none 0 0)=v.fr.getD (j-v.b) (.slice none 0 0):=by simp only[List.getD_eq_getElem?_getD,List.getElem?_drop];rw[show 1+(j-(v.b+1))=j-v.b by omega]
    rw[e1]
   ·rw[if_neg hb,if_neg (by omega)]
theorem zaa.modS(h:zaa own nm g d v){n:Nat}{s:DS}(hn:d.str n=some s)(s':DS)(x:DSV)(own':N->Res)
  (h0:own' (nm (.st n)) = .obj (v.ptr n) (.cells (zba g s' x) 94 (0,0)))
  (h1:own' (nm (.hdr n)) = .row 122 2 x.vH s'.headers.length (zap s'.headers))
  (h2:own' (nm (.block n)) = .row 5 1 x.vB s'.block.length (zab s'.block))
  (h3:own' (nm (.data n)) = .row 5 1 x.vD s'.data.length (zab s'.data))
  (h4:own' (nm (.unread n)) = .row 5 1 x.vU s'.unread.length (zab s'.unread))
  (hk:∀ y,y ≠ .st n->y ≠ .hdr n->y ≠ .block n->y ≠ .data n->y ≠ .unread n->own' (nm y)=own (nm y))
  (hid:s'.id=n) (hm:s'.mine=s.mine) (hkp:s'.kept=s.kept) (nb:s'.block=[]->x.vB = .slice none 0 0) (nh:s'.headers=[]->x.vH = .slice none 0 0) :
  zaa own' nm g (d.setS n s') { v with sv:=λk=>if k=n then x else v.sv k }:=by
 refine⟨h.inj,λz => ?_,h.frl,?_,?_,h.wf.setS n s' hid,?_,?_⟩
 ·by_cases e0:z = .st n
  ·subst e0;rw[h0];simp only[zao,zaj,if_true]
  by_cases e1:z = .hdr n
  ·subst e1;rw[h1];simp only[zao,zaj,if_true]
  by_cases e2:z = .block n
  ·subst e2;rw[h2];simp only[zao,zaj,if_true]
  by_cases e3:z = .data n
  ·subst e3;rw[h3];simp only[zao,zaj,if_true]
  by_cases e4:z = .unread n
  ·subst e4;rw[h4];simp only[zao,zaj,if_true]
  rw[hk z e0 e1 e2 e3 e4,h.res];cases z with
  | st k =>
   have:k≠n:=λe=>e0 (by rw[e])
   simp only[zao,zaj,if_neg this]
  | hdr k =>
   have:k≠n:=λe=>e1 (by rw[e])
   simp only[zao,zaj,if_neg this]
  | block k =>
   have:k≠n:=λe=>e2 (by rw[e])
   simp only[zao,zaj,if_neg this]
  | data k =>
   have:k≠n:=λe=>e3 (by rw[e])
   simp only[zao,zaj,if_neg this]
  | unread k =>
   have:k≠n:=λe=>e4 (by rw[e])
   simp only[zao,zaj,if_neg this]
  | _=>rfl
 ·rw[zwd d true v.ptr hn hm hkp];exact h.mapM
 ·rw[zwd d false v.ptr hn hm hkp];exact h.mapT
 ·intro k t hk1 hk2;rw[zaj] at hk1;by_cases e:k=n
  ·rw[if_pos e] at hk1;cases hk1;simp only[if_pos e];exact nb hk2
  ·rw[if_neg e] at hk1;simp only[if_neg e];exact h.nilB k t hk1 hk2
 ·intro k t hk1 hk2;rw[zaj] at hk1;by_cases e:k=n
  ·rw[if_pos e] at hk1;cases hk1;simp only[if_pos e];exact nh hk2
  ·rw[if_neg e] at hk1;simp only[if_neg e];exact h.nilH k t hk1 hk2
theorem zaa.scalS(h:zaa own nm g d v){n:Nat}{s:DS}(hn:d.str n=some s)(s':DS)(e1:s'.headers=s.headers)(e2:s'.block=s.block)(e3:s'.data=s.data)(e4:s'.unread=s.unread)(e5:s'.id=s.id)(hm:s'.mine=s.mine)(hkp:s'.kept=s.kept) :
  zaa (upd own (nm (.st n)) (.obj (v.ptr n) (.cells (zba g s' (v.sv n)) 94 (0,0)))) nm g (d.setS n s') v:=by
 have k:=h.modS hn s' (v.sv n) (upd own (nm (.st n)) (.obj (v.ptr n) (.cells (zba g s' (v.sv n)) 94 (0,0)))) (zag _ _ _)
  (by rw[zad h.inj,if_neg (by simp),e1];exact h.hdr hn) (by rw[zad h.inj,if_neg (by simp),e2];exact h.block hn)
  (by rw[zad h.inj,if_neg (by simp),e3];exact h.data hn) (by rw[zad h.inj,if_neg (by simp),e4];exact h.unread hn)
  (λy hy _ _ _ _=>by rw[zad h.inj,if_neg hy]) (by rw[e5];exact h.wf.ids n s hn) hm hkp (λe=>h.nilB n s hn (by rw[<-e2];exact e)) (λe=>h.nilH n s hn (by rw[<-e1];exact e))
 have ev:{ v with sv:=λk=>if k=n then v.sv n else v.sv k }=v:=by
  cases v
  congr 1;funext k
  by_cases e:k=n
  ·rw[if_pos e,e]
  ·rw[if_neg e]
 rw[ev] at k;exact k
theorem zbf(d:Ds)(n:Nat)(s:DS)(k:Nat)(hk:(d.str k).isSome=true):((d.setS n s).str k).isSome=true:=by
 rw[zaj];by_cases e:k=n
 ·simp[e]
 ·rw[if_neg e];exact hk
end
theorem zbk{i:Option TypeInfo}{z:Option Value}{n b:Nat}(h:i.map (λi=>(i.zero,i.size,i.bytes))=some (z,n,b)):∃ i0,i=some i0/\i0.zero=z/\i0.size=n/\i0.bytes=b:=by
 cases i with
 | none=>simp at h
 | some i0 =>
  simp only[Option.map_some,Option.some.injEq,Prod.mk.injEq] at h;exact⟨i0,rfl,h.1,h.2.1,h.2.2⟩
theorem Tryz.infoEv:(Tryz.prog.info? 109).map (λi=>(i.zero,i.size,i.bytes))=some (some (.agg #[.int .i64 0,.int .i64 0,.int .i64 0]),3,24):=by kernel_rfl
theorem Tryz.infoFr:(Tryz.prog.info? 111).map (λi=>(i.zero,i.size,i.bytes))=some (some (.agg #[.int .i64 0,.int .i64 0,.int .i64 0,.slice none 0 0]),4,48):=by kernel_rfl
theorem Tryz.infoPS:(Tryz.prog.info? 87).map (λi=>(i.zero,i.size,i.bytes))=some (some (.pointer none),1,8):=by kernel_rfl
theorem Tryz.infoU:(Tryz.prog.info? 5).map (λi=>(i.zero,i.size,i.bytes))=some (some (.int .u8 0),1,1):=by kernel_rfl
theorem zzbgi(d:Ds)(id:Int):zfz d.fm id=decide (d.side id=some true):=by
 unfold zfz Ds.side Ds.fm;rw[Bool.eq_iff_iff];by_cases h:0<id
 ·cases d.client<;>simp[h]<;>omega
 ·simp[h]
theorem zqx(d:Ds)(id:Int):zfz d.ft id=decide (d.side id=some false):=by
 unfold zfz Ds.side Ds.ft;rw[Bool.eq_iff_iff];by_cases h:0<id
 ·cases d.client<;>simp[h]<;>omega
 ·simp[h]
theorem fm_12(d:Ds):d.fm=1\/d.fm=2:=by unfold Ds.fm;split<;>simp
theorem ft_12(d:Ds):d.ft=1\/d.ft=2:=by unfold Ds.ft;split<;>simp
section
variable {N:Type} {own:N->Res} {nm:DN->N} {g:Nat} {d:Ds} {v:DV} {wb w:World}
def ztl(d:Ds)(v:DV)(id:Int)(p:Nat)(w w':World):Prop :=
 (∃ s,d.real id=some s/\d.str s.id=some s/\p=v.ptr s.id/\w'=w)\/(d.real id=none/\p=w.heap.size/\w'=w.alloc (.cells (zcl (if d.known id then 8 else 0)) 94))
theorem ztl.of(h:zaa own nm g d v){id:Int}{m:Bool}(hm:d.side id=some m){p:Nat}{w':World}(hf:zzbde p (if id<=(d.last m:Int) then d.mapF m v.ptr id else none) (if id<=(d.last m:Int) then 8 else 0) w w'):ztl d v id p w w':=by
 have h0:0<id:=by
  unfold Ds.side at hm;by_cases h0:0<id
  ·exact h0
  ·rw[if_neg h0] at hm;cases hm
 have hr:d.real id=if id<=(d.last m:Int) then d.held m id.toNat else none:=by unfold Ds.real;rw[hm]
 have hk:d.known id=decide (id<=(d.last m:Int)):=by unfold Ds.known;rw[hm]
 have hF:d.mapF m v.ptr id=(d.held m id.toNat).map (λ_=>v.ptr id.toNat):=by unfold Ds.mapF;rw[if_pos (by omega)]
 by_cases hl:id<=(d.last m:Int)
 ·rw[if_pos hl,if_pos hl,hF] at hf;rw[if_pos hl] at hr;rcases hf with ⟨h1,rfl⟩ | ⟨h1,rfl,rfl⟩
  ·left;cases hh:d.held m id.toNat with
   | none=>rw[hh] at h1;simp at h1
   | some s =>
    rw[hh] at h1;simp only[Option.map_some,Option.some.injEq] at h1;have hs:d.str id.toNat=some s:=by
     unfold Ds.held at hh;cases hx:d.str id.toNat with
     | none=>rw[hx] at hh;simp at hh
     | some t =>
      rw[hx] at hh;dsimp only at hh;split at hh
      ·cases hh;rfl
      ·cases hh
    have hid:=h.wf.ids _ _ hs;exact⟨s,by rw[hr,hh],by rw[hid];exact hs,by rw[hid];exact h1.symm,rfl⟩
  ·right;refine⟨?_,rfl,?_⟩
   ·rw[hr];cases hh:d.held m id.toNat with
    | none=>rfl
    | some s=>rw[hh] at h1;simp at h1
   ·rw[hk,decide_eq_true hl];rfl
 ·rw[if_neg hl,if_neg hl] at hf;rw[if_neg hl] at hr;rcases hf with ⟨h1,rfl⟩ | ⟨h1,rfl,rfl⟩
  ·cases h1
  ·right;refine⟨hr,rfl,?_⟩;rw[hk,decide_eq_false hl];rfl
set_option maxHeartbeats 1600000 in
theorem ztm(h:zaa own nm g d v)(hs:Sep wb w own)(id:Int)(h1:-9223372036854775808<=id)(h2:id<=9223372036854775807) :
  Calls Tryz.prog 39 #[.pointer (some ⟨g,0,none⟩),.int .i64 id] w λe w' => ∃ p,e = .returned (.pointer (some ⟨p,0,none⟩))/\ztl d v id p w w':=by
 have k1:=zly g 0 d.fm id w (h.c0 hs) (fm_12 d);have k2:=zly g 5 d.ft id w (h.c5 hs) (ft_12 d);rw[zzbgi] at k1;rw[zqx] at k2;have k3:=zqw g 0 v.gm d.mLast id v.esM v.ckM (d.mapF true v.ptr) w (h.c1 hs) (h.c4 hs) (hs.get (h.res .mm)) h.mapM h1 h2;have k4:=zqw g 5 v.gt d.tLast id v.esT v.ckT (d.mapF false v.ptr) w (h.c6 hs) (h.c9 hs) (hs.get (h.res .mt)) h.mapT h1 h2;have KF:=λm hm p w' hf=>hide (ztl.of (id:=id) (m:=m) (p:=p) (w:=w) (w':=w') h hm hf);cases hsd:d.side id with
 | none =>
  have KN:Hid (d.real id=none/\d.known id=false):=by
   show _/\_
   unfold Ds.real Ds.known;rw[hsd];exact⟨rfl,rfl⟩
  rw[hsd] at k1 k2;simp only[reduceCtorEq,decide_false] at k1 k2;clear hsd k3 k4 KF
  go_enter Tryz.func39,Tryz.ntmps39
  go_wp2_with fail
  refine k1.mono ?_;rintro e w1 ⟨rfl,hw⟩;replace hw:=hw.symm;subst hw
  go_wp2_with fail
  refine k2.mono ?_;rintro e w1 ⟨rfl,hw⟩;replace hw:=hw.symm;subst hw
  go_wp2
  go_ret
  exact⟨_,rfl,.inr ⟨KN.out.1,rfl,by rw[KN.out.2];rfl⟩⟩
 | some m =>
  cases m with
  | true =>
   have KF':=KF true hsd;rw[hsd] at k1;simp only[decide_true] at k1;clear hsd k2 k4 KF
   go_enter Tryz.func39,Tryz.ntmps39
   go_wp2_with fail
   refine k1.mono ?_;rintro e w1 ⟨rfl,hw⟩;replace hw:=hw.symm;subst hw
   go_wp2_with fail
   refine k3.mono ?_;rintro e w1 ⟨p,rfl,hf⟩;have HF:=KF' p w1 hf;clear hf
   go_wp2
   go_ret
   exact⟨p,rfl,HF.out⟩
  | false =>
   have KF':=KF false hsd;rw[hsd] at k1 k2;simp only[Option.some.injEq,Bool.false_eq_true,decide_false,decide_true] at k1 k2;clear hsd k3 KF
   go_enter Tryz.func39,Tryz.ntmps39
   go_wp2_with fail
   refine k1.mono ?_;rintro e w1 ⟨rfl,hw⟩;replace hw:=hw.symm;subst hw
   go_wp2_with fail
   refine k2.mono ?_;rintro e w1 ⟨rfl,hw⟩;replace hw:=hw.symm;subst hw
   go_wp2_with fail
   refine k4.mono ?_;rintro e w1 ⟨p,rfl,hf⟩;have HF:=KF' p w1 hf;clear hf
   go_wp2
   go_ret
   exact⟨p,rfl,HF.out⟩
theorem zzbjg{P:Program}(w:World){t e':TypeId}(e:TypeId)(ht:P.underlying t=some (.slice e'))(a b c:Int):Src P 3 t (.slice (some ⟨w.heap.size,0,none⟩) 1 1) 1 [.int .i64 a,.int .i64 b,.int .i64 c] (w.alloc (.cells #[.int .i64 a,.int .i64 b,.int .i64 c] e)) :=
 Src.ofSlice (w.alloc (.cells #[.int .i64 a,.int .i64 b,.int .i64 c] e)) ht ⟨w.heap.size,0,none⟩ 1 1 [.int .i64 a,.int .i64 b,.int .i64 c] rfl (λj x hj=>by
  match j,hj with
  | 0,hj=>simp at hj;subst hj;simp[Addr.add]
  | 1,hj=>simp at hj;subst hj;simp[Addr.add]
  | 2,hj=>simp at hj;subst hj;simp[Addr.add]) (λx hx=>by simp at hx;rcases hx with rfl | rfl | rfl<;>rfl)
theorem zzbgj{P:Program}(w:World){t e':TypeId}(e:TypeId)(ht:P.underlying t=some (.slice e'))(a b c:Int)(r:Option Addr)(n k:Nat):Src P 4 t (.slice (some ⟨w.heap.size,0,none⟩) 1 1) 1 [.int .i64 a,.int .i64 b,.int .i64 c,.slice r n k] (w.alloc (.cells #[.int .i64 a,.int .i64 b,.int .i64 c,.slice r n k] e)) :=
 Src.ofSlice (w.alloc (.cells #[.int .i64 a,.int .i64 b,.int .i64 c,.slice r n k] e)) ht ⟨w.heap.size,0,none⟩ 1 1 [.int .i64 a,.int .i64 b,.int .i64 c,.slice r n k] rfl (λj x hj=>by
  match j,hj with
  | 0,hj=>simp at hj;subst hj;simp[Addr.add]
  | 1,hj=>simp at hj;subst hj;simp[Addr.add]
  | 2,hj=>simp at hj;subst hj;simp[Addr.add]
  | 3,hj=>simp at hj;subst hj;simp[Addr.add]) (λx hx=>by simp at hx;rcases hx with rfl | rfl | rfl | rfl<;>rfl)
set_option maxHeartbeats 1600000 in
theorem zgq(h:zaa own nm g d v)(hs:Sep wb w own)(hf:d.Fits 1)(kind id code:Nat) :
  Calls Tryz.prog 92 #[.pointer (some ⟨g,0,none⟩),.int .i64 (kind:Int),.int .i64 (id:Int),.int .i64 (code:Int)] w λe w'=>e = .returned (.tuple #[])/\zaf nm g wb own d v w' (d.tell kind id code):=by
 obtain⟨i0,hi,hz0,hz1,hz2⟩:=zbk Tryz.infoEv;have q:=hf.ev;obtain⟨aE,cE,hE,-,-⟩:=OwnAt.slice (h.rowE hs);have f14:=h.c14 hs;rw[hE] at f14;have s1:=hs.ext ((Ext.refl w).alloc (.cells #[.int .i64 (kind:Int),.int .i64 (id:Int),.int .i64 (code:Int)] 109));have hA:OwnAt _ 109 3 v.vE d.ev.length (zcf d.ev):=h.rowE s1;rw[hE] at hA;have hsrc:=zzbjg (P:=Tryz.prog) w 109 Tryz.underlying101 kind id code
 go_enter Tryz.func92,Tryz.ntmps92
 go_wp2_with (at_builtin;refine zbh _ rfl (.tmp 12) (.tmp 17) 101 101 rfl 109 i0 (.agg #[.int .i64 0,.int .i64 0,.int .i64 0]) 3 24 Tryz.underlying101 hi hz0 hz1 hz2 rfl _ _ _ rfl hA _ 1 _ rfl hsrc ?_ ?_ ?_)
 ·unfold maxLen;omega
 ·omega
 ·intro v2 w2 hA2 hG2;rw[<-hE] at hG2;obtain⟨a2,k2,hv2,-,-⟩:=hA2.slice;have hA3:OwnAt w2 109 3 v2 (d.ev++[(kind,id,code)]).length (zcf (d.ev++[(kind,id,code)])):=zbv hA2 (by simp) (by rw[zvh];rfl);have s2:=s1.grew (h.res .ev) hG2 hA3;have c2:upd own (nm .ev) (.row 109 3 v2 (d.ev++[(kind,id,code)]).length (zcf (d.ev++[(kind,id,code)]))) (nm .conn) = .obj g (.cells (zbc d v) 105 (0,0)):=by rw[zad h.inj,if_neg (by simp)];exact h.conn
  have th:=s2.thaw c2 14;have f14':w2.cell? ⟨g,14,none⟩=some v.vE:=s2.cell c2 14;have s3:=s2.setObj c2 14 v2;clear hA hA2 hA3 hG2 hsrc s1 s2 f14 hE;rw[hv2]
  go_wp2
  go_end0
  rw[<-hv2];exact⟨rfl,_,{ v with vE:=v2 },s3,h.setEv _ v2,((zai.refl nm own).upd _ _).upd _ _,rfl,λ_=>rfl,λ_ hn=>⟨rfl,hn⟩⟩
set_option maxHeartbeats 1600000 in
theorem zga(h:zaa own nm g d v)(kind flags id:Nat)(body:Bytes)(vb:Value)(hs:Sep wb w (upd own (nm (.fr (v.b+d.ctl.length))) (.row 5 1 vb body.length (zab body))))(hf:d.Fits 1) :
  Calls Tryz.prog 69 #[.pointer (some ⟨g,0,none⟩),.int .i64 (kind:Int),.int .i64 (flags:Int),.int .i64 (id:Int),vb] w λe w'=>e = .returned (.tuple #[])/\zaf nm g wb own d v w' (d.lay kind flags id body):=by
 obtain⟨i0,hi,hz0,hz1,hz2⟩:=zbk Tryz.infoFr;have q:=hf.ctl;have hb:OwnAt w 5 1 vb body.length (zab body):=hs.get (zag _ _ _);obtain⟨ab,cb,hvb,-,-⟩:=hb.slice;have r0:upd own (nm (.fr (v.b+d.ctl.length))) (.row 5 1 vb body.length (zab body)) (nm .ctl) = .row 111 4 v.vC d.ctl.length (zcv d.ctl v.fr):=by rw[zad h.inj,if_neg (by simp)];exact h.res .ctl
 have c0:upd own (nm (.fr (v.b+d.ctl.length))) (.row 5 1 vb body.length (zab body)) (nm .conn) = .obj g (.cells (zbc d v) 105 (0,0)):=by rw[zad h.inj,if_neg (by simp)];exact h.conn
 obtain⟨aE,cE,hE,-,-⟩:=OwnAt.slice (hs.get r0);have f12:w.cell? ⟨g,12,none⟩=some v.vC:=hs.cell c0 12;rw[hE] at f12;rw[hvb];have s1:=hs.ext ((Ext.refl w).alloc (.cells #[.int .i64 (kind:Int),.int .i64 (flags:Int),.int .i64 (id:Int),.slice ab body.length cb] 111));have hA:OwnAt _ 111 4 v.vC d.ctl.length (zcv d.ctl v.fr):=s1.get r0;rw[hE] at hA;have hsrc:=zzbgj (P:=Tryz.prog) w 111 Tryz.underlying99 kind flags id ab body.length cb
 go_enter Tryz.func69,Tryz.ntmps69
 go_wp2_with (at_builtin;refine zbh _ rfl (.tmp 14) (.tmp 20) 99 99 rfl 111 i0 (.agg #[.int .i64 0,.int .i64 0,.int .i64 0,.slice none 0 0]) 4 48 Tryz.underlying99 hi hz0 hz1 hz2 rfl _ _ _ rfl hA _ 1 _ rfl hsrc ?_ ?_ ?_)
 ·unfold maxLen;omega
 ·omega
 ·intro v2 w2 hA2 hG2;rw[<-hE] at hG2;rw[<-hvb] at hA2;obtain⟨a2,k2,hv2,-,-⟩:=hA2.slice;have hA3:OwnAt w2 111 4 v2 (d.ctl++[(kind,flags,id,body)]).length (zcv (d.ctl++[(kind,flags,id,body)]) (v.fr++[vb])):=zbv hA2 (by simp) (by rw[zvi _ _ _ _ h.frl];rfl);have s2:=s1.grew r0 hG2 hA3;have c2:=(zad h.inj (upd own (nm (.fr (v.b+d.ctl.length))) (.row 5 1 vb body.length (zab body))) .ctl .conn (.row 111 4 v2 (d.ctl++[(kind,flags,id,body)]).length (zcv (d.ctl++[(kind,flags,id,body)]) (v.fr++[vb])))).trans ((if_neg (by simp)).trans c0);have th:=s2.thaw c2 12;have f12':w2.cell? ⟨g,12,none⟩=some v.vC:=s2.cell c2 12;have s3:=s2.setObj c2 12 v2;clear hA hA2 hA3 hG2 hsrc s1 s2 f12 hE hb hs;rw[hv2]
  go_wp2
  go_end0
  rw[<-hv2];exact⟨rfl,_,{ v with vC:=v2,fr:=v.fr++[vb] },s3,h.pushCtl (kind,flags,id,body) v2 vb,(((zai.refl nm own).upd _ _).upd _ _).upd _ _,rfl,λ_=>rfl,λ_ hn=>⟨rfl,hn⟩⟩
end
theorem zqd{w:World}{T:TypeId}{cs:Array Value}{xs:List Value}{q:Nat}(hq:w.heap.size=q)(h:cs.toList=xs)(hl:cs.size<=maxLen):OwnAt (w.alloc (.cells cs T)) T 1 (.slice (some ⟨q,0,none⟩) cs.size cs.size) cs.size xs:=by subst h;subst hq;refine⟨by simp,.inr ⟨w.heap.size,0,cs.size,cs,rfl,heap_alloc_new w _,Nat.le_refl _,hl,by omega,?_⟩⟩;rw[Nat.mul_one,List.drop_zero];exact List.take_of_length_le (by simp)
theorem zzbdf(w:World)(n:Nat)(x y:Int){q:Nat}(hq:w.heap.size=q)(hx:x=(n:Int)/256%256)(hy:y=(n:Int)%256):OwnAt (w.alloc (.cells #[.int .u8 x,.int .u8 y] 5)) 5 1 (.slice (some ⟨q,0,none⟩) 2 2) (two n).length (zab (two n)) :=
 zqd (cs:=#[.int .u8 x,.int .u8 y]) hq (by subst hx;subst hy;simp[zab,two]) (by simp[maxLen])
theorem zzbgk(w:World)(n k:Nat)(x y z:Int){q:Nat}(hq:w.heap.size=q)(hx:x=(n:Int)/256%256)(hy:y=(n:Int)%256)(hz:z=(k:Int)%256):OwnAt (w.alloc (.cells #[.int .u8 x,.int .u8 y,.int .u8 z] 5)) 5 1 (.slice (some ⟨q,0,none⟩) 3 3) (two n++[UInt8.ofNat k]).length (zab (two n++[UInt8.ofNat k])) :=
 zqd (cs:=#[.int .u8 x,.int .u8 y,.int .u8 z]) hq (by subst hx;subst hy;subst hz;simp[zab,two]) (by simp[maxLen])
theorem zzbdg(w:World)(k:Nat)(z:Int){q:Nat}(hq:w.heap.size=q)(hz:z=(k:Int)%256):OwnAt (w.alloc (.cells #[.int .u8 z] 5)) 5 1 (.slice (some ⟨q,0,none⟩) 1 1) [UInt8.ofNat k].length (zab [UInt8.ofNat k]) :=
 zqd (cs:=#[.int .u8 z]) hq (by subst hz;simp[zab]) (by simp[maxLen])
theorem zho(w:World)(n k:Nat){q:Nat}(hq:w.heap.size=q):∀ b,(Value.slice (some ⟨q,0,none⟩) n k).ownBlock=some b->w.heap.size<=b:=λb hb=>by simp only[Value.ownBlock,Option.some.injEq] at hb;omega
theorem zsd(d:Ds)(v:DV)(x:Int):(zbc d v).setIfInBounds 11 (.int .i64 x)=zbc { d with to_:=x } v:=rfl
theorem ztn(g:Nat)(s:DS)(v:DSV)(x:Int):(zba g s v).setIfInBounds 4 (.int .i64 x)=zba g { s with to_:=x } v:=rfl
theorem OwnAt.ext{w w':World}{T sz n:Nat}{v:Value}{xs:List Value}(h:OwnAt w T sz v n xs)(e:Ext w w'):OwnAt w' T sz v n xs:=h.same (λk hk=>e.block k (h.lt k hk))
section
variable {N:Type} {own:N->Res} {nm:DN->N} {g:Nat} {d:Ds} {v:DV} {wb w:World}
set_option maxHeartbeats 1600000 in
theorem zxs(h:zaa own nm g d v)(hs:Sep wb w own)(hf:d.Fits 1)(code:Nat) :
  Calls Tryz.prog 80 #[.pointer (some ⟨g,0,none⟩),.int .i64 (code:Int)] w λe w'=>e = .returned (.tuple #[])/\zaf nm g wb own d v w' (d.layAway code):=by
 have f6:=h.c6 hs;have q:=hf.tLast;have e1:IntKind.u8.wrap (IntKind.i64.wrap ((d.tLast:Int)/256))=(d.tLast:Int)/256%256:=by rw[zhh _ (by omega) (by omega),zkd]
 have e2:IntKind.u8.wrap (d.tLast:Int)=(d.tLast:Int)%256:=zkd _;have e3:IntKind.u8.wrap (code:Int)=(code:Int)%256:=zkd _
 go_enter Tryz.func80,Tryz.ntmps80
 go_region_with (go_at_call 69;refine(zga h 6 0 0 (two d.tLast++[UInt8.ofNat code]) _ (hs.add (nm (.fr (v.b+d.ctl.length))) ((Ext.refl w).alloc _).drew ((zzbgk w d.tLast code _ _ _ rfl rfl rfl rfl).ext (Ext.refl _).drew) (zho w 3 3 rfl)) hf).mono ?_;rintro e w1 ⟨rfl,hL⟩)
 all_goals
  go_wp2
  go_end0
  exact⟨rfl,hL⟩
theorem Ds.Fits.to_{d:Ds}{m:Nat}(h:d.Fits m)(n:Int)(h0:0<=n)(h1:n+1000*(m:Int)<=68719476736):Ds.Fits { d with to_:=n } m :=
 ⟨h.mLast,h.tLast,h.mMost,h.tMost,h.mCount0,h.mCount1,h.tCount0,h.tCount1,h.from0,h.from1,h0,h1,h.ctl,h.ring,h.ev,h.inn,h.pings,h.coming,h.bodies,h.st⟩
set_option maxHeartbeats 1600000 in
theorem ziy(h:zaa own nm g d v)(hs:Sep wb w own)(hf:d.Fits 2)(n:Nat)(hn:n<=1000) :
  Calls Tryz.prog 83 #[.pointer (some ⟨g,0,none⟩),.pointer (some ⟨g,10,none⟩),.int .i64 0,.int .i64 (n:Int)] w λe w'=>e = .returned (.tuple #[])/\zaf nm g wb own d v w' (d.give0 n):=by
 have f11:=h.c11 hs;have q0:=hf.to0;have q1:=hf.to1;have th:=h.thaw hs 11;have s2:=hs.setObj h.conn 11 (.int .i64 (d.to_+n));rw[zsd] at s2;have h2:zaa (upd own (nm .conn) (.obj g (.cells (zbc { d with to_:=d.to_+n } v) 105 (0,0)))) nm g { d with to_:=d.to_+n } v:=h.scal rfl rfl rfl rfl rfl;have hf2:Ds.Fits { d with to_:=d.to_+n } 1:=(hf.mono (by omega)).to_ _ (by omega) (by omega);have hq:(w.setCell ⟨g,11,none⟩ (.int .i64 (d.to_+n))).heap.size=w.heap.size:=by simp
 go_enter Tryz.func83,Tryz.ntmps83
 go_wp2_with fail
 refine(zga h2 7 0 0 (two n) _ (s2.add (nm (.fr (v.b+d.ctl.length))) ((Ext.refl _).alloc _) (zzbdf _ n _ _ hq ?_ ?_) (zho _ 2 2 hq)) hf2).mono ?_
 ·omega
 ·omega
 rintro e w1 ⟨rfl,hL⟩
 go_wp2
 go_end0
 exact⟨rfl,hL.trans ((zai.refl nm own).upd _ _) rfl (λ_=>rfl) (λ_ hn=>⟨rfl,hn⟩)⟩
theorem Ds.Fits.setS{d:Ds}{m:Nat}(h:d.Fits m)(n:Nat)(s:DS)(hs:s.Fits):(d.setS n s).Fits m :=
 ⟨h.mLast,h.tLast,h.mMost,h.tMost,h.mCount0,h.mCount1,h.tCount0,h.tCount1,h.from0,h.from1,h.to0,h.to1,h.ctl,h.ring,h.ev,h.inn,h.pings,h.coming,h.bodies,λk t hk=>by
  rw[zaj] at hk;by_cases e:k=n
  ·rw[if_pos e] at hk;cases hk;exact hs
  ·rw[if_neg e] at hk;exact h.st k t hk⟩
set_option maxHeartbeats 1600000 in
theorem zzbbk(h:zaa own nm g d v)(hs:Sep wb w own)(hf:d.Fits 2){s:DS}(hst:d.str s.id=some s)(n:Nat)(hn:s.to_+n+s.unread.length<=100) :
  Calls Tryz.prog 83 #[.pointer (some ⟨g,0,none⟩),.pointer (some ⟨v.ptr s.id,3,none⟩),.int .i64 (s.id:Int),.int .i64 (n:Int)] w λe w'=>e = .returned (.tuple #[])/\zaf nm g wb own d v w' (d.giveS s n):=by
 have f4:=h.s4 hs hst;have fs:=hf.st _ _ hst;have q0:=fs.to0;have q1:=fs.to1;have th:=h.sthaw hs hst 4;have s2:=hs.setObj (h.st hst) 4 (.int .i64 (s.to_+n));rw[ztn] at s2;have h2:=h.scalS hst { s with to_:=s.to_+n } rfl rfl rfl rfl rfl rfl rfl;have hf2:Ds.Fits (d.setS s.id { s with to_:=s.to_+n }) 1:=(hf.mono (by omega)).setS _ _ ⟨fs.id,fs.state,fs.from0,fs.from1,by show 0<=s.to_+n;omega,hn,fs.headers,fs.block,fs.data,fs.code⟩;have hq:(w.setCell ⟨v.ptr s.id,4,none⟩ (.int .i64 (s.to_+n))).heap.size=w.heap.size:=by simp
 go_enter Tryz.func83,Tryz.ntmps83
 go_wp2_with fail
 refine(zga h2 7 0 s.id (two n) _ (s2.add (nm (.fr (v.b+d.ctl.length))) ((Ext.refl _).alloc _) (zzbdf _ n _ _ hq ?_ ?_) (zho _ 2 2 hq)) hf2).mono ?_
 ·omega
 ·omega
 rintro e w1 ⟨rfl,hL⟩
 go_wp2
 go_end0
 exact⟨rfl,hL.trans ((zai.refl nm own).upd _ _) rfl (λ_=>rfl) (λk hn=>⟨rfl,zbf d _ _ k hn⟩)⟩
end
end Go.Proofs.YtoijpogadkogcaaGreat
