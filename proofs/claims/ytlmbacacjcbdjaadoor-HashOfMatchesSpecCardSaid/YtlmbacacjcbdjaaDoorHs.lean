/- Plain SHA-256: no program here. -/
import Derived.Test.YtlmbacacjcbdjaaDoorHp

namespace Go.Proofs.YtlmbacacjcbdjaaDoor.hs

def KK : List Nat := [1116352408, 1899447441, 3049323471, 3921009573, 961987163, 1508970993, 2453635748, 2870763221, 3624381080, 310598401, 607225278, 1426881987, 1925078388, 2162078206, 2614888103, 3248222580, 3835390401, 4022224774, 264347078, 604807628, 770255983, 1249150122, 1555081692, 1996064986, 2554220882, 2821834349, 2952996808, 3210313671, 3336571891, 3584528711, 113926993, 338241895, 666307205, 773529912, 1294757372, 1396182291, 1695183700, 1986661051, 2177026350, 2456956037, 2730485921, 2820302411, 3259730800, 3345764771, 3516065817, 3600352804, 4094571909, 275423344, 430227734, 506948616, 659060556, 883997877, 958139571, 1322822218, 1537002063, 1747873779, 1955562222, 2024104815, 2227730452, 2361852424, 2428436474, 2756734187, 3204031479, 3329325298]
/-- a word turned right -/
def rot (x n : Nat) : Nat := x * 2 ^ (32 - n) % 4294967296 ||| x / 2 ^ n
def ad (a b : Nat) : Nat := (a + b) % 4294967296
def nt (a : Nat) : Nat := a ^^^ 4294967295
def b0 (a : Nat) : Nat := rot a 2 ^^^ rot a 13 ^^^ rot a 22
def b1 (e : Nat) : Nat := rot e 6 ^^^ rot e 11 ^^^ rot e 25
def g0 (a : Nat) : Nat := rot a 7 ^^^ rot a 18 ^^^ a / 8
def g1 (a : Nat) : Nat := rot a 17 ^^^ rot a 19 ^^^ a / 1024
def ch (e f g : Nat) : Nat := (e &&& f) ^^^ (nt e &&& g)
def maj (a b c : Nat) : Nat := (a &&& b) ^^^ (a &&& c) ^^^ (b &&& c)

structure S8 where
  a : Nat
  b : Nat
  c : Nat
  d : Nat
  e : Nat
  f : Nat
  g : Nat
  h : Nat
def tx (s : S8) (k w : Nat) : Nat := ad (ad (ad (ad s.h (b1 s.e)) (ch s.e s.f s.g)) k) w
def ty (s : S8) : Nat := ad (b0 s.a) (maj s.a s.b s.c)
def round (s : S8) (k w : Nat) : S8 := ⟨ad (tx s k w) (ty s), s.a, s.b, s.c, ad s.d (tx s k w), s.e, s.f, s.g⟩
def rounds : S8 → List Nat → List Nat → S8
  | s, k :: ks, w :: ws => rounds (round s k w) ks ws
  | s, _, _ => s
/-- the first 16 words -/
def word (b : List UInt8) (t : Nat) : Nat := (b.getD (4 * t) 0).toNat * 16777216 ||| (b.getD (4 * t + 1) 0).toNat * 65536 ||| (b.getD (4 * t + 2) 0).toNat * 256 ||| (b.getD (4 * t + 3) 0).toNat
def words (b : List UInt8) : Nat → List Nat
  | 0 => []
  | t + 1 => words b t ++ [word b t]
/-- the next word of a list of t words -/
def nextW (l : List Nat) (t : Nat) : Nat := ad (ad (ad (l.getD (t - 16) 0) (g0 (l.getD (t - 15) 0))) (l.getD (t - 7) 0)) (g1 (l.getD (t - 2) 0))
def ext (l : List Nat) : Nat → List Nat
  | 0 => l
  | k + 1 => ext l k ++ [nextW (ext l k) (16 + k)]
def sched (b : List UInt8) : List Nat := ext (words b 16) 48
def plus (s t : S8) : S8 := ⟨ad s.a t.a, ad s.b t.b, ad s.c t.c, ad s.d t.d, ad s.e t.e, ad s.f t.f, ad s.g t.g, ad s.h t.h⟩
def comp (v : S8) (b : List UInt8) : S8 := plus v (rounds v KK (sched b))
def H0 : S8 := ⟨1779033703, 3144134277, 1013904242, 2773480762, 1359893119, 2600822924, 528734635, 1541459225⟩

/-- a message so far: the value, the bytes behind it -/
def push (s : S8 × List UInt8) (c : UInt8) : S8 × List UInt8 := if s.2.length = 63 then (comp s.1 (s.2 ++ [c]), []) else (s.1, s.2 ++ [c])
def feed (s : S8 × List UInt8) (l : List UInt8) : S8 × List UInt8 := l.foldl push s
def len8 (n : Nat) : List UInt8 := [56, 48, 40, 32, 24, 16, 8, 0].map fun i => UInt8.ofNat (8 * n / 2 ^ i)
def zeros (n : Nat) : List UInt8 := List.replicate n 0
/-- the value behind the padding -/
def fin (s : S8 × List UInt8) (n : Nat) : S8 :=
  if s.2.length < 56 then comp s.1 (s.2 ++ 128 :: zeros (55 - s.2.length) ++ len8 n) else comp (comp s.1 (s.2 ++ 128 :: zeros (63 - s.2.length))) (zeros 56 ++ len8 n)
def w4 (a : Nat) : List UInt8 := [UInt8.ofNat (a / 16777216), UInt8.ofNat (a / 65536), UInt8.ofNat (a / 256), UInt8.ofNat a]
def out (s : S8) : List UInt8 := w4 s.a ++ w4 s.b ++ w4 s.c ++ w4 s.d ++ w4 s.e ++ w4 s.f ++ w4 s.g ++ w4 s.h
def sha (m : List UInt8) : List UInt8 := out (fin (feed (H0, []) m) m.length)

theorem feed_append (s : S8 × List UInt8) (a b : List UInt8) : feed s (a ++ b) = feed (feed s a) b := List.foldl_append
end Go.Proofs.YtlmbacacjcbdjaaDoor.hs
